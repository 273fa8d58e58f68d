package meet

import (
	"cmp"
	"slices"

	"excise/api"
	"excise/code"
	"excise/flow"
)

// The ops that matter to where a way ends.
const (
	opStop  = 0x00
	opJump  = 0x56
	opJumpi = 0x57
)

// exit is the place to which ways go that end; no code has it.
const exit = -1

// blocks are those of code, rising.
type blocks []api.Block

// find tells which block begins at a place, and whether one does.
func (b blocks) find(first int) (int, bool) {
	return slices.BinarySearchFunc(b, first, func(x api.Block, first int) int { return cmp.Compare(x.First, first) })
}

// next tells where ways go on from a place. Of a block that may leave the code that is the exit alone: nothing but itself is behind it for sure, wherever else it may go.
func (b blocks) next(place int) []int {
	i, is := b.find(place)
	switch {
	case !is:
		return nil
	case b[i].Exit:
		return []int{exit}
	}
	return b[i].Next
}

// graph is the blocks of code, and of each, and of the exit, those that go on to it.
type graph struct {
	blocks
	from map[int][]int
}

// graphOf is the graph of code; it keeps nothing of it.
func graphOf(c []byte) graph {
	g := graph{blocks: flow.Blocks(tamed(c)), from: map[int][]int{}}
	for _, b := range g.blocks {
		for _, to := range g.next(b.First) {
			g.from[to] = append(g.from[to], b.First)
		}
	}
	return g
}

// back tells from where ways come to a place.
func (g graph) back(place int) []int { return g.from[place] }

// tamed is code in which jumps that are not fixed are ends. Behind either nothing is for sure, as the way may leave the code there; but flow tells all marks behind each such jump, and that may be more than there is room for.
func tamed(c []byte) []byte {
	l := slices.Clone(c)
	ahead := 0
	for at, op := range code.Ops(c) {
		if (op == opJump || op == opJumpi) && loose(c[ahead:at+1], at-ahead) {
			l[at] = opStop
		}
		ahead = at
	}
	return l
}

// loose tells whether a jump, looked at from the op ahead of it on, is not fixed.
func loose(c []byte, place int) bool {
	_, fixed := flow.Fixed(c, place)
	return !fixed
}
