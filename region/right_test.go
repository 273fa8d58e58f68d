package region_test

import (
	"maps"
	"math"
	"slices"

	"excise/api"
	"excise/code"
	"excise/flow"
	"excise/meet"
)

// answer is what is right of a JUMPI that has a region.
type answer struct {
	region api.Region
	within []int
}

// steps are the ops of a block.
func steps(c []byte, b api.Block) []byte {
	var l []byte
	for at, op := range code.Ops(c) {
		if b.First <= at && at <= b.Last {
			l = append(l, op)
		}
	}
	return l
}

// web is code and its blocks, by their first places.
type web struct {
	code   []byte
	blocks map[int]api.Block
}

// webOf is that of code, as flow tells it.
func webOf(c []byte) web {
	w := web{c, map[int]api.Block{}}
	for _, b := range flow.Blocks(c) {
		w.blocks[b.First] = b
	}
	return w
}

// quiet tells whether a block may be in a region.
func (w web) quiet(b api.Block) bool {
	return !b.Exit && !slices.ContainsFunc(steps(w.code, b), func(op byte) bool {
		info, _ := code.Info(op)
		return !info.Quiet && op != 0x56 && op != 0x57
	})
}

// ways tells all ways from a block to a meet, each as the blocks ahead of this, and whether all of them are such as a region has.
func (w web) ways(path []int, from, meet int) ([][]int, bool) {
	if from == meet {
		return [][]int{slices.Clone(path)}, true
	}
	if b := w.blocks[from]; !w.quiet(b) || slices.Contains(path, from) {
		return nil, false
	}
	var all [][]int
	path = append(slices.Clone(path), from)
	for _, next := range w.blocks[from].Next {
		l, fine := w.ways(path, next, meet)
		if !fine {
			return nil, false
		}
		all = append(all, l...)
	}
	return all, true
}

// sum tells what a way has, as a region of it alone.
func (w web) sum(way []int) api.Region {
	var r api.Region
	for _, place := range way {
		for _, op := range steps(w.code, w.blocks[place]) {
			info, _ := code.Info(op)
			r.Least += info.Gas
			r.Most += info.Gas
			r.Low = min(r.Low, r.Height-info.In)
			r.Height += info.Out - info.In
			r.High = max(r.High, r.Height)
		}
	}
	return r
}

// alike tells whether all ways from each of their blocks, and all of them together, change the stack's height alike.
func (w web) alike(ways [][]int) bool {
	heights := map[int]int{}
	const beginning = -1
	for _, way := range ways {
		for i, place := range append([]int{beginning}, way...) {
			h := w.sum(way[max(0, i-1):]).Height
			if was, is := heights[place]; is && was != h {
				return false
			}
			heights[place] = h
		}
	}
	return true
}

// right is what is right of all JUMPIs of code, as the document says what regions are.
func right(c []byte) map[int]answer {
	w, l := webOf(c), map[int]answer{}
	for first, b := range w.blocks {
		_, fixed := flow.Fixed(c, b.Last)
		m, is := meet.Meet(c, first)
		if c[b.Last] != 0x57 || !fixed || b.Exit || !is {
			continue
		}
		var ways [][]int
		fine := true
		for _, side := range b.Next {
			of, is := w.ways(nil, side, m)
			ways, fine = append(ways, of...), fine && is
		}
		if fine && w.alike(ways) {
			l[b.Last] = w.answer(m, ways)
		}
	}
	return l
}

// answer is what is told of ways to a meet.
func (w web) answer(meet int, ways [][]int) answer {
	a := answer{region: api.Region{Meet: meet, Least: math.MaxUint64}}
	within := map[int]bool{}
	for _, way := range ways {
		r := w.sum(way)
		a.region.Least, a.region.Most = min(a.region.Least, r.Least), max(a.region.Most, r.Most)
		a.region.Low, a.region.High = min(a.region.Low, r.Low), max(a.region.High, r.High)
		a.region.Height = r.Height
		for _, place := range way {
			within[place] = true
		}
	}
	a.within = slices.Sorted(maps.Keys(within))
	return a
}
