package meet

import "slices"

// exitNumber is the number of the exit, which is met first.
const exitNumber = 0

// tree is what a look from the exit back has met: blocks from which a way goes there, by numbers that rise as they are met, deep ones first.
type tree struct {
	graph
	places  []int       // by numbers
	numbers map[int]int // by places
	toward  []int       // the number from which each one was met: one that it may go on to
}

// lookBack looks from the exit back as far as ways come from.
func (g graph) lookBack() *tree {
	t := &tree{graph: g, numbers: map[int]int{}}
	t.look(g.back, exit)
	return t
}

// look meets places from one on, each at most once, those that were told last first.
func (t *tree) look(ways func(place int) []int, place int) {
	type step struct{ place, toward int }
	todo := []step{{place, exitNumber}}
	for len(todo) > 0 {
		s := todo[len(todo)-1]
		todo = todo[:len(todo)-1]
		if _, met := t.numbers[s.place]; met {
			continue
		}
		n := len(t.places)
		t.numbers[s.place] = n
		t.places = append(t.places, s.place)
		t.toward = append(t.toward, s.toward)
		for _, p := range ways(s.place) {
			todo = append(todo, step{p, n})
		}
	}
}

// number tells the number of the block at a place, and whether a way goes from it to the exit.
func (t *tree) number(first int) (int, bool) {
	if _, is := t.find(first); !is { // the exit has a number, but is no block
		return 0, false
	}
	n, ends := t.numbers[first]
	return n, ends
}

// line tells the places of a block, of the nearest one behind it, and so on.
func (t *tree) line(first int) []int {
	var l []int
	var h hops
	n, ends := t.number(first)
	if !ends {
		goto none
	}
	h = t.behind()
	for ; n != exitNumber; n = h[n].near {
		l = append(l, t.places[n])
	}
none:
	return l
}

// behind tells of each number what is behind it for sure, the exit too.
//
// The look has found one way from each block to the exit. What is on it is behind for sure unless a detour goes around it. So behind a block is what the next one on that way and the one where the farthest detour comes back have both behind them, themselves too.
func (t *tree) behind() hops {
	h := hops{}
	shrink := func(n, least int) int {
		if far := h[n].far; far >= least {
			return far
		}
		return h[n].near
	}
	for n, back := range t.detours(t.next) {
		if n != exitNumber {
			h.add(n, met(shrink, t.toward[n], back))
		}
	}
	return h
}

// detours tells of each number the least one at which a way from it comes out that has gone over greater ones alone.
func (t *tree) detours(ways func(place int) []int) []int {
	l := make([]int, len(t.places))
	s := short{up: slices.Clone(t.toward), least: make([]int, len(t.places))}
	for n := len(t.places) - 1; n > exitNumber; n-- {
		l[n] = t.toward[n]
		for _, place := range ways(t.places[n]) {
			if to, ends := t.numbers[place]; ends {
				l[n] = min(l[n], s.out(to, n))
			}
		}
		s.least[n] = l[n]
	}
	return l
}

// short is the look's ways cut short: from each number a greater step toward the exit, and the least number at which detours come out from all that the step leaves.
type short struct {
	up, least []int
}

// out tells the least number at which ways come out that go on to a number, and over greater ones than a bound.
func (s short) out(n, bound int) int {
	if n <= bound {
		return n
	}
	var steps []int
	for ; s.up[n] > bound; n = s.up[n] {
		steps = append(steps, n)
	}
	least := s.least[n]
	for _, k := range slices.Backward(steps) {
		s.least[k] = min(s.least[k], least)
		least, s.up[k] = s.least[k], s.up[n]
	}
	return least
}
