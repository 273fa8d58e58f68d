package region

import (
	"slices"

	"excise/api"
	"excise/code"
	"excise/flow"
)

// exit is the place to which ways go that end; no code has it.
const exit = -1

// graph is the blocks of code by their first places, and of each, and of the exit, those that go on to it.
type graph struct {
	blocks map[int]api.Block
	from   map[int][]int
}

// graphOf is the graph of tamed code.
func graphOf(l listing) graph {
	g := graph{blocks: map[int]api.Block{}, from: map[int][]int{}}
	for _, b := range flow.Blocks(l) {
		g.blocks[b.First] = b
		for _, to := range b.Next {
			g.from[to] = append(g.from[to], b.First)
		}
		if b.Exit {
			g.from[exit] = append(g.from[exit], b.First)
		}
	}
	return g
}

// order tells the blocks from which a way goes to the exit, each behind those to which it may go, but for those from which a way comes round to it ahead of its meet. (A look from the exit back comes to a block's meet first, and leaves last what it comes to first.)
func (g graph) order() []int {
	type step struct {
		place int
		leave bool
	}
	var l []int
	met := map[int]struct{}{}
	for todo := []step{{place: exit}}; len(todo) > 0; {
		s := todo[len(todo)-1]
		todo = todo[:len(todo)-1]
		_, is := met[s.place]
		switch {
		case s.leave:
			l = append(l, s.place)
		case !is:
			met[s.place] = struct{}{}
			todo = append(todo, step{s.place, true})
			for _, place := range g.from[s.place] {
				todo = append(todo, step{place: place})
			}
		}
	}
	slices.Reverse(l)
	return l[1:] // the exit is ahead of all
}

// ahead tells the blocks to which one may come from some ahead of a meet, rising.
func (g graph) ahead(meet int, firsts ...int) []int {
	var l []int
	met := map[int]struct{}{meet: {}}
	for todo := slices.Clone(firsts); len(todo) > 0; {
		place := todo[0]
		todo = todo[1:]
		if _, is := met[place]; !is {
			met[place] = struct{}{}
			l = append(l, place)
			todo = append(todo, g.blocks[place].Next...)
		}
	}
	slices.Sort(l)
	return l
}

// tamed is code in which jumps that are not fixed are ends. A block that has either may leave the code, and is in no region; but flow tells all marks behind each such jump, and that may be more than there is room for.
func tamed(c []byte) listing {
	l := slices.Clone(c)
	ahead := 0
	for at, op := range code.Ops(c) {
		if (op == opJump || op == opJumpi) && loose(c[ahead:at+1], at-ahead) {
			l[at] = opStop
		}
		ahead = at
	}
	return l
}

// loose tells whether a jump, looked at from the op ahead of it on, is not fixed.
func loose(c []byte, place int) bool {
	_, fixed := flow.Fixed(c, place)
	return !fixed
}
