package region

import (
	"excise/api"
	"excise/code"
)

// The ops that matter to where a way goes.
const (
	opStop  = 0x00
	opJump  = 0x56
	opJumpi = 0x57
)

// way is what ways have: the least and the greatest gas; of the stack's height, counted from where they begin, the lowest one down to which words are taken, the highest one, and what it is in the end. A broken one is part of no region.
type way struct {
	least, most       uint64
	low, high, height int
	broken            bool
}

// noRegion is what a look gives up with.
type noRegion struct{}

// need gives up where what a region must have is not so.
func need(so bool) {
	if !so {
		panic(noRegion{})
	}
}

// tried is the way that a look comes to; a broken one, if it gives up.
func tried(look func() way) (w way) {
	defer func() {
		switch given := recover().(type) {
		case nil:
		case noRegion:
			w = way{broken: true}
		default:
			panic(given) // a fault of the program's own, that is no answer
		}
	}()
	return look()
}

// fold lays things one by one onto a sum.
func fold[S, T any](sum S, lay func(S, T) S, things ...T) S {
	for _, x := range things {
		sum = lay(sum, x)
	}
	return sum
}

// along is ways one behind the other.
func along(ways ...way) way {
	return fold(way{}, func(w, x way) way {
		return way{
			least:  w.least + x.least,
			most:   w.most + x.most,
			low:    min(w.low, w.height+x.low),
			high:   max(w.high, w.height+x.high),
			height: w.height + x.height,
			broken: w.broken || x.broken,
		}
	}, ways...)
}

// either is ways of which one is taken; they must change the stack's height alike.
func either(first way, others ...way) way {
	return fold(first, func(w, x way) way {
		need(w.height == x.height)
		return way{
			least:  min(w.least, x.least),
			most:   max(w.most, x.most),
			low:    min(w.low, x.low),
			high:   max(w.high, x.high),
			height: w.height,
			broken: w.broken || x.broken,
		}
	}, others...)
}

// listing is code, told op by op.
type listing []byte

// through is the way through the ops of a block that does not leave the code, each of which must be quiet, but for its jump: that is fixed, and goes to a mark.
func (l listing) through(b api.Block) way {
	var steps []way
	for _, op := range code.Ops(l[b.First : b.Last+1]) {
		info, _ := code.Info(op)
		need(info.Quiet || op == opJump || op == opJumpi)
		change := info.Out - info.In
		steps = append(steps, way{least: info.Gas, most: info.Gas, low: -info.In, high: max(0, change), height: change})
	}
	return along(steps...)
}
