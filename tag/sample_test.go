package tag_test

import (
	"slices"
	"testing"

	"excise/api"
	"excise/tag"
)

// noise tells numbers without a pattern, the same ones each time.
func noise() func() uint64 {
	n := uint64(0x9e3779b97f4a7c15)
	return func() uint64 {
		n ^= n << 13
		n ^= n >> 7
		n ^= n << 17
		return n
	}
}

// labels are few, so that many of them are below one another, and some at the edges.
func labels() []api.Label {
	return []api.Label{api.Bottom, 1, 2, 3, 4, 6, 1 << 63, 1<<63 | 1, api.Top &^ 1, api.Top}
}

// words are noughts, words of few bytes, and such of all.
func words() []api.Word {
	next := noise()
	l := []api.Word{{}, {1}, {255}, {256}, {0, 1}, {0, 0, 0, 1}, {0, 0, 0, 1 << 63}, {api.MaxPart, 0, 5}}
	full := api.Word{1<<64 - 1, 1<<64 - 1, 1<<64 - 1, 1<<64 - 1}
	return append(l, full, api.Word{0x0807060504030201, 0x100f0e0d0c0b0a09, 0x1817161514131211, 0x201f1e1d1c1b1a19}, api.Word{next(), next(), next(), next()})
}

// values are each word with each label.
func values() []api.Val {
	var l []api.Val
	for _, w := range words() {
		for _, a := range labels() {
			l = append(l, api.Val{Word: w, Label: a})
		}
	}
	return l
}

// list is so many cells without a pattern.
func list(next func() uint64, many int) []api.Cell {
	l := make([]api.Cell, many)
	of := labels()
	for i := range l {
		l[i] = api.Cell{Byte: byte(next() >> 9), Label: of[next()>>9%uint64(len(of))]}
	}
	return l
}

// lists are lists of many lengths.
func lists() [][]api.Cell {
	next := noise()
	l := [][]api.Cell{nil, {}, {{Byte: 1, Label: 1}, {Byte: 2, Label: 4}}}
	for many := range 70 {
		l = append(l, list(next, many))
	}
	return append(l, list(next, 1000))
}

// below tells whether each principal of the first is in the second.
func below(a, b api.Label) bool { return a&^b == 0 }

// cellAt is the cell at a place, as the document says it of those that lack.
func cellAt(l []api.Cell, at int) api.Cell {
	if at < len(l) {
		return l[at]
	}
	return api.Cell{}
}

// roomy is a list with other cells in the room behind it, and all of them.
func roomy(l []api.Cell) (short, whole []api.Cell) {
	whole = append(slices.Clone(l), tag.Of(slices.Repeat([]byte{0xaa}, 40), 1<<40)...)
	return whole[:len(l)], whole
}

// unlike changes something of a list, in each of the ways there are, and tells it each time.
func unlike(l []api.Cell, tell func(changed []api.Cell, at int, labelled bool)) {
	for at := range l {
		c := slices.Clone(l)
		c[at].Byte ^= 1 << (at % 8)
		tell(c, at, false)
		c = slices.Clone(l)
		c[at].Label ^= 1 << (at % 64)
		tell(c, at, true)
	}
}

func TestLimits(t *testing.T) {
	if api.MaxPart != 65536 || api.ErrArg != 2 {
		t.Errorf("MaxPart %d, ErrArg %d", api.MaxPart, api.ErrArg)
	}
}
