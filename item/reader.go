package item

import (
	"bytes"
	"iter"

	"excise/api"
	"excise/word"
)

// piece is an item that was cut off: its kind, and its bytes without the head.
type piece struct {
	kind kind
	body []byte
}

// rest is bytes that are taken away from the front.
type rest []byte

// take takes so many bytes away.
func (r *rest) take(n uint64) []byte {
	if n > uint64(len(*r)) {
		panic(api.ErrItem)
	}
	b := (*r)[:n]
	*r = (*r)[n:]
	return b
}

// cut takes the first item away.
func (r *rest) cut() piece {
	first := r.take(1)
	k := kindUnder(first[0])
	if k == alone {
		return piece{k, first}
	}
	return piece{k, r.take(r.length(first[0] - heads[k]))}
}

// length is what a head says, by itself or by so many bytes behind it.
func (r *rest) length(said byte) uint64 {
	if said <= headMost {
		return uint64(said)
	}
	w, errno := Word(api.Item{Bytes: r.take(uint64(said - headMost))})
	n, _ := word.Small(w) // no head has more than 8 bytes behind it
	if errno != api.OK || n <= headMost {
		panic(api.ErrItem)
	}
	return n
}

// reader is an item's bytes under way: how deep that one lies, and by what those inside are told apart.
type reader struct {
	rest
	deep  int
	kinds map[kind]func(reader) api.Item
}

// kinds are the ways to read what is behind a head.
func kinds() map[kind]func(reader) api.Item {
	return map[kind]func(reader) api.Item{
		alone:  reader.bytes,
		octets: reader.bytes,
		list:   reader.items,
	}
}

// bytes is the item of all bytes.
func (r reader) bytes() api.Item { return api.Item{Bytes: bytes.Clone(r.rest)} }

// items is the list of all items inside.
func (r reader) items() api.Item {
	return api.Item{List: true, Items: made(r.pieces(), func(p piece) api.Item { return r.read(p, r.deep+1) })}
}

// pieces cuts off all items, one by one.
func (r reader) pieces() iter.Seq[piece] {
	return func(yield func(piece) bool) {
		for len(r.rest) > 0 && yield(r.cut()) {
		}
	}
}

// read is the item of a piece that lies so deep; it gives up where there is no such item.
func (r reader) read(p piece, deep int) api.Item {
	if deep > api.MaxDeep {
		panic(api.ErrItem)
	}
	x := r.kinds[p.kind](reader{p.body, deep, r.kinds})
	if kindOf(x) != p.kind { // of each item there is just one form
		panic(api.ErrItem)
	}
	return x
}
