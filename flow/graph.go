package flow

import (
	"cmp"
	"iter"
	"slices"
)

// piece is a block: its first and its last place, that of the op ahead of the last one, and where it may go. That it may go to all marks is held apart, for these may be as many as the pieces.
type piece struct {
	first, last, ahead int
	to                 []int
	anywhere, exit     bool
}

// graph is the pieces of code, and its marks, both rising.
type graph struct {
	pieces []piece
	marks  []int
}

// next tells where a piece may go, rising.
func (g graph) next(p piece) []int {
	if p.anywhere {
		return rising(slices.Concat(g.marks, p.to)...)
	}
	return rising(p.to...)
}

// find tells which piece begins at a place, and whether one does.
func (g graph) find(first int) (int, bool) {
	return slices.BinarySearchFunc(g.pieces, first, func(p piece, first int) int { return cmp.Compare(p.first, first) })
}

// walk goes over the pieces to which one may come from one, each with how many times one must go on at least.
func (g graph) walk(first int) iter.Seq2[int, int] {
	return func(yield func(int, int) bool) {
		w := walker{graph: g, met: make([]bool, len(g.pieces))}
		near := w.meet(first)
	walk:
		for times := 0; len(near) > 0; times++ {
			var far []int
			for _, place := range near {
				if !yield(place, times) {
					break walk
				}
				far = append(far, w.on(place)...)
			}
			near = rising(far...)
		}
	}
}

// walker is a walk under way: which pieces it has met, and whether all marks are among them.
type walker struct {
	graph
	met      []bool
	anywhere bool
}

// meet tells at which of the places pieces begin that were not met before, and meets them.
func (w *walker) meet(places ...int) []int {
	var l []int
	for _, place := range places {
		if i, is := w.find(place); is && !w.met[i] {
			w.met[i] = true
			l = append(l, place)
		}
	}
	return l
}

// on tells what is met by going on from the piece at a place.
func (w *walker) on(place int) []int {
	i, _ := w.find(place)
	p := w.pieces[i]
	l := w.meet(p.to...)
	if p.anywhere && !w.anywhere { // a second look at all marks would meet none
		w.anywhere = true
		l = append(l, w.meet(w.marks...)...)
	}
	return l
}
