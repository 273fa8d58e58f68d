package item

import (
	"slices"

	"excise/api"
	"excise/word"
)

// kind is in what form an item is laid.
type kind int

const (
	alone  kind = iota // one byte below the least head
	octets             // other bytes
	list               // items
)

// heads are the least first bytes of all kinds' items.
var heads = [...]byte{alone: 0, octets: 128, list: 192}

// headMost is the greatest length that a head tells by itself.
const headMost = 55

// kindOf tells in what form an item is laid.
func kindOf(x api.Item) kind {
	switch {
	case x.List:
		return list
	case len(x.Bytes) == 1 && x.Bytes[0] < heads[octets]:
		return alone
	}
	return octets
}

// kindUnder tells of what kind the item is that begins with a byte.
func kindUnder(first byte) kind {
	k := list
	for first < heads[k] {
		k--
	}
	return k
}

// laid is the bytes of an item that may be; it gives up where they are too many.
func laid(x api.Item) []byte {
	body := x.Bytes
	if x.List {
		body = joined(x.Items)
	}
	if len(body) > api.MaxItem { // ahead of making room for it
		panic(api.ErrLong)
	}
	b := append(head(kindOf(x), len(body)), body...)
	if len(b) > api.MaxItem {
		panic(api.ErrLong)
	}
	return b
}

// joined is the bytes of items, one behind the other; it gives up at the first that makes them too many.
func joined(l []api.Item) []byte {
	total := 0
	return slices.Concat(made(slices.Values(l), func(x api.Item) []byte {
		b := laid(x)
		total += len(b)
		if total > api.MaxItem {
			panic(api.ErrLong)
		}
		return b
	})...)
}

// head is what is ahead of so many bytes.
func head(k kind, n int) []byte {
	switch {
	case k == alone:
		return nil
	case n <= headMost:
		return []byte{heads[k] + byte(n)}
	}
	length := Number(word.Of(uint64(n))).Bytes
	return append([]byte{heads[k] + headMost + byte(len(length))}, length...)
}
