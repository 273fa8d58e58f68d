package bits

import (
	"math"

	"excise/api"
	"excise/split"
	"excise/word"
)

// Which way bits are moved: what is moved down begins further up in the word that it was, and the other way round.
const (
	up   = -1
	down = 1
)

// parts are the four numbers of a word.
type parts api.Word

// at tells the number at a place, and whether there is one.
func (p parts) at(place int) (uint64, bool) {
	if place < 0 || place >= len(p) {
		return 0, false
	}
	return p[place], true
}

// noughts fills a number with noughts.
func (p parts) noughts() uint64 { return 0 }

// signs fills a number with the word's highest bit.
func (p parts) signs() uint64 {
	if split.Negative(api.Word(p)) {
		return math.MaxUint64
	}
	return 0
}

// draft is a word under way: its parts, and a way to fill what lies beyond them.
type draft struct {
	parts
	fill func() uint64
}

// number tells the number at a place, the parts' or one beyond them.
func (d draft) number(place int) uint64 {
	if n, there := d.at(place); there {
		return n
	}
	return d.fill()
}

// from is the word whose lowest bit is the draft's at a place.
func (d draft) from(place int) api.Word {
	var w api.Word
	rest := place & (partBits - 1) // not by %, which is below nought where the place is
	first := (place - rest) / partBits
	for i := range w {
		w[i] = d.number(first+i)>>rest | d.number(first+i+1)<<(partBits-rest)
	}
	return w
}

// moved is the draft with its bits so many places on; by as many as a word has or more, nothing of it is left.
func (d draft) moved(by api.Word, way int) api.Word {
	n, near := below(by, width)
	if !near {
		goto tooFar
	}
	return d.from(way * n)
tooFar:
	return filled(d.fill())
}

// filled is a word all of whose parts are one number.
func filled(n uint64) api.Word { return api.Word{n, n, n, n} }

// below tells a word's value and true, if it is below a bound.
func below(a api.Word, bound int) (int, bool) {
	n, small := word.Small(a)
	if !small || n >= uint64(bound) {
		return 0, false
	}
	return int(n), true
}
