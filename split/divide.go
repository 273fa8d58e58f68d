package split

import (
	"math/bits"

	"excise/api"
)

// How many numbers make up a word, which of them is the highest, and how many bits each has.
const (
	count    = len(api.Word{})
	highest  = count - 1
	partBits = 64
)

// words are what a split comes to: how often it goes in, and what is left.
type words struct{ times, left api.Word }

// quotient is how often it goes in, modulo 2^256.
func (w words) quotient() api.Word { return w.times }

// rest is what is left.
func (w words) rest() api.Word { return w.left }

// tally hangs the next bit onto how often it goes in.
func (w *words) tally(bit uint64) { hang(&w.times, bit) }

// underWay is a split under way, of a number whose bits come one by one, the highest first.
type underWay struct {
	words
	by api.Word
}

// take hangs the next bit onto what is left; if the divisor goes into that then, it is taken out, and 1 is told, else 0.
func (u *underWay) take(bit uint64) uint64 {
	over := hang(&u.left, bit)
	var less api.Word
	var borrow uint64
	for i, n := range u.left {
		less[i], borrow = bits.Sub64(n, u.by[i], borrow)
	}
	// a bit that has fallen off is just what the difference borrows: only one without the other counts
	if over != borrow {
		return 0
	}
	u.left = less
	return 1
}

// divide splits a number, the lowest part first, by a word.
func divide(by api.Word, number ...uint64) words {
	u := underWay{by: by}
	step := func(place int) {
		u.tally(u.take(number[place/partBits] >> (place % partBits) & 1))
	}
	if by == (api.Word{}) {
		goto nought
	}
	for place := width(number) - 1; place >= 0; place-- {
		step(place)
	}
	return u.words
nought:
	return words{}
}

// told is the word that a method tells of a thing.
func told[T any](of T, by func(T) api.Word) api.Word { return by(of) }

// hang lays a bit behind all bits of a word, and tells the one that falls off at its top.
func hang(w *api.Word, bit uint64) uint64 {
	for i, n := range w {
		w[i] = n<<1 | bit
		bit = n >> (partBits - 1)
	}
	return bit
}

// width is how many bits a number has without those that are nought ahead.
func width(number []uint64) int {
	for i := len(number) - 1; i >= 0; i-- {
		if number[i] != 0 {
			return i*partBits + bits.Len64(number[i])
		}
	}
	return 0
}

// sum is the whole sum of words, the lowest part first.
func sum(a, b api.Word) [count + 1]uint64 {
	var l [count + 1]uint64
	var carry uint64
	for i, p := range a {
		l[i], carry = bits.Add64(p, b[i], carry)
	}
	l[count] = carry
	return l
}

// product is the whole product of words, the lowest part first.
func product(a, b api.Word) [2 * count]uint64 {
	var l [2 * count]uint64
	for i, p := range a {
		var over uint64
		for j, q := range b {
			hi, lo := bits.Mul64(p, q)
			low, first := bits.Add64(lo, over, 0)
			here, second := bits.Add64(l[i+j], low, 0)
			// two carries can't lift it past a number: p * q and two numbers more have room in two
			l[i+j], over = here, hi+first+second
		}
		l[i+count] = over
	}
	return l
}
