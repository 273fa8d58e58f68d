package region

import (
	"excise/api"
	"excise/meet"
)

// branch is a JUMPI that has a region: this, and the two blocks to which it may go.
type branch struct {
	api.Region
	sides [2]int
}

// hop is what is behind a block for sure, and the ways there: its meet, one that is farther on, and how many there are, itself too. Of a block without a meet both are itself; of none there is nothing.
type hop struct {
	near, far  int
	count      int
	step, leap way
}

// hops are those of blocks, by their first places.
type hops map[int]hop

// root adds a block that has no meet.
func (h hops) root(place int) { h[place] = hop{near: place, far: place, count: 1} }

// add adds a block, its meet, that was added before, and the way there. It hops far where two hops from there on are as long as each other, so that few hops lead along any line.
func (h hops) add(place, near int, step way) {
	one := h[near]
	two := h[one.far]
	x := hop{near: near, far: near, count: one.count + 1, step: step, leap: step}
	if one.count-two.count == two.count-h[two.far].count {
		x.far, x.leap = two.far, along(step, one.leap, two.leap)
	}
	h[place] = x
}

// between is the way from a block to one that is behind it for sure. It gives up on a block that was not added, for from there ways come round again, or do not end.
func (h hops) between(place, to int) way {
	var w way
	for end := h[to].count; place != to; {
		x := h[place]
		need(x.count > end)
		if h[x.far].count >= end {
			w, place = along(w, x.leap), x.far
		} else {
			w, place = along(w, x.step), x.near
		}
	}
	return w
}

// look is what is found of code: of each block the way to its meet, and the branches that have regions, by their places.
type look struct {
	listing
	graph
	hops
	branches map[int]branch
}

// lookAt looks at all branches of code.
func lookAt(c []byte) *look {
	l := &look{listing: tamed(c), hops: hops{}, branches: map[int]branch{}}
	l.graph = graphOf(l.listing)
	meets := meet.Meets(l.listing)
	for _, place := range l.order() {
		if to, is := meets[place]; is {
			l.lead(l.blocks[place], to)
		} else {
			l.root(place)
		}
	}
	return l
}

// lead looks at the ways from a block to its meet, those from all that is ahead of this being known.
func (l *look) lead(b api.Block, to int) {
	sides := [...]int{b.Next[0], b.Next[len(b.Next)-1]}
	on := tried(func() way { return either(l.between(sides[0], to), l.between(sides[1], to)) })
	if l.listing[b.Last] == opJumpi && !on.broken {
		r := api.Region{Meet: to, Least: on.least, Most: on.most, Low: on.low, High: on.high, Height: on.height}
		l.branches[b.Last] = branch{r, sides}
	}
	l.add(b.First, to, tried(func() way { return along(l.through(b), on) }))
}
