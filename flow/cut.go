package flow

import (
	"iter"
	"slices"

	"excise/api"
	"excise/code"
	"excise/word"
)

// The ops that lead a way through code, or end it.
const (
	opStop         = 0x00
	opJump         = 0x56
	opJumpi        = 0x57
	opMark         = 0x5b
	opReturn       = 0xf3
	opRevert       = 0xfd
	opInvalid      = 0xfe
	opSelfdestruct = 0xff
)

// nowhere is the place of an op that there is not.
const nowhere = -1

// jumps tells whether an op is a jump.
func jumps(op byte) bool { return op == opJump || op == opJumpi }

// listing is code, told op by op.
type listing []byte

// ops goes over its ops, each with its place.
func (l listing) ops() iter.Seq2[int, byte] { return code.Ops(l) }

// pushed tells what the op at a place puts, and whether it is a PUSH; it is looked at from there on, for the way up to it is known already.
func (l listing) pushed(at int) (api.Word, bool) {
	if at == nowhere {
		return api.Word{}, false
	}
	return code.Push(l[at:], 0)
}

// cut is code under way, and the pieces that it has come to.
type cut struct {
	listing
	graph
	ends map[byte]struct{}
}

// newCut is code that is not cut yet.
func newCut(l listing) *cut {
	return &cut{listing: l, ends: map[byte]struct{}{opStop: {}, opReturn: {}, opRevert: {}, opInvalid: {}, opSelfdestruct: {}}}
}

// ending tells whether an op ends, as a byte does that is none.
func (c *cut) ending(op byte) bool {
	_, ends := c.ends[op]
	_, known := code.Info(op)
	return ends || !known
}

// cutter tells of all ops, from the first one on, whether a block begins with them.
func (c *cut) cutter() func(op byte) bool {
	behind := true // the code's beginning is as behind an end
	return func(op byte) bool {
		begins := behind || op == opMark
		behind = c.ending(op) || jumps(op)
		return begins
	}
}

// graphOf is the graph of code; it keeps nothing of it.
func graphOf(l listing) graph {
	c := newCut(l)
	c.marks = code.Marks(l)
	c.divide()
	for i := range c.pieces {
		c.lead(i)
	}
	return c.graph
}

// divide cuts the code into pieces, that are not led anywhere yet.
func (c *cut) divide() {
	begins := c.cutter()
	ahead := nowhere
	for at, op := range c.ops() {
		if begins(op) {
			c.pieces = append(c.pieces, piece{first: at})
		}
		p := &c.pieces[len(c.pieces)-1]
		p.last, p.ahead = at, ahead
		ahead = at
	}
}

// lead finds where a piece may go.
func (c *cut) lead(i int) {
	leads := [...]func(*cut, int){(*cut).jump, (*cut).jumpi} // from JUMP on
	op := c.listing[c.pieces[i].last]
	switch {
	case c.ending(op):
		goto exit
	case jumps(op):
		leads[op-opJump](c, i)
	default:
		c.onward(i)
	}
	return
exit:
	c.pieces[i].exit = true
}

// jump leads a piece to where its jump goes. A PUSH ahead of the jump is in the piece: none begins between them.
func (c *cut) jump(i int) {
	p := &c.pieces[i]
	to, fixed := c.pushed(p.ahead)
	mark, is := c.mark(to)
	switch {
	case !fixed:
		p.anywhere, p.exit = true, true
	case is:
		p.to = append(p.to, mark)
	default:
		p.exit = true
	}
}

// jumpi leads a piece to where its jump goes, and behind it.
func (c *cut) jumpi(i int) {
	c.jump(i)
	c.onward(i)
}

// onward leads a piece to what is behind it.
func (c *cut) onward(i int) {
	p := &c.pieces[i]
	if i+1 < len(c.pieces) {
		p.to = append(p.to, c.pieces[i+1].first)
	} else {
		p.exit = true
	}
}

// mark tells the place of a word, and whether it is a mark.
func (c *cut) mark(to api.Word) (int, bool) {
	place, small := word.Small(to)
	if !small || place >= uint64(len(c.listing)) {
		return 0, false
	}
	_, is := slices.BinarySearch(c.marks, int(place))
	return int(place), is
}
