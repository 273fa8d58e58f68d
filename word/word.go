// Package word is layer 1: numbers of 256 bits, and what is added and multiplied of them, modulo 2^256.
package word

import (
	"cmp"
	"iter"
	"math/bits"
	"strings"

	"excise/api"
)

// How a word is laid out, as numbers, as bytes and as text.
const (
	count     = 4
	size      = 8 * count
	longest   = 2 * size
	lead      = "0x"
	digits    = "0123456789abcdef"
	byteWidth = 8
	textWidth = 4
)

// Of is the word of a value.
func Of(n uint64) api.Word { return api.Word{n} }

// Add is the sum of all words, nought of none.
func Add(l ...api.Word) api.Word {
	var sum api.Word
	fold := func(w api.Word) {
		var carry uint64
		for i, p := range w {
			sum[i], carry = bits.Add64(sum[i], p, carry)
		}
	}
	for _, w := range l {
		fold(w)
	}
	return sum
}

// Sub is the difference of words.
func Sub(a, b api.Word) api.Word {
	var borrow uint64
	for i, p := range b {
		a[i], borrow = bits.Sub64(a[i], p, borrow)
	}
	return a
}

// Mul is the product of words.
func Mul(a, b api.Word) api.Word {
	var product draft
rows:
	for i, p := range Parts(a) {
		for j, q := range Parts(b) {
			if i+j >= count { // this and all further on would lie past the highest part
				continue rows
			}
			hi, lo := bits.Mul64(p, q)
			product.addAt(i+j, lo)
			product.addAt(i+j+1, hi)
		}
	}
	return api.Word(product.parts)
}

// Order is -1, 0 or 1, as the first one is less, the same, or more.
func Order(a, b api.Word) int {
	if a == b {
		return 0
	}
	p, q := firstUnlike(a, b)
	return cmp.Compare(p, q)
}

// firstUnlike tells the first pair, from the highest on, whose two are unlike; zeros where there is none.
func firstUnlike[T comparable](a, b [count]T) (p, q T) {
	for i := count - 1; i >= 0; i-- {
		if a[i] != b[i] {
			return a[i], b[i]
		}
	}
	return p, q
}

// Small tells the word's value and true, if it is below 2^64.
func Small(a api.Word) (uint64, bool) {
	if a != Of(a[0]) {
		return 0, false
	}
	return a[0], true
}

// Bytes tells the word's 32 bytes, the highest first.
func Bytes(a api.Word) []byte {
	b := make([]byte, size)
	for i := range b {
		b[size-1-i] = byte(a[i/8] >> (i % 8 * byteWidth))
	}
	return b
}

// Read tells the word whose bytes they are, the highest first.
func Read(b []byte) (api.Word, api.Errno) {
	if len(b) > size {
		return api.Word{}, api.ErrLong
	}
	d := draft{width: byteWidth}
	for _, c := range b {
		d.take(uint64(c))
	}
	return api.Word(d.parts), api.OK
}

// Text tells the word's text: 0x and its digits.
func Text(a api.Word) string {
	b := make([]byte, 0, longest)
	for _, c := range Bytes(a) {
		b = append(b, digits[c>>textWidth], digits[c&(1<<textWidth-1)])
	}
	s := strings.TrimLeft(string(b), "0")
	if s == "" {
		s = "0"
	}
	return lead + s
}

// Parse tells the word of a text.
func Parse(s string) (api.Word, api.Errno) {
	d := draft{width: textWidth}
	rest, led := strings.CutPrefix(s, lead)
	if !led || rest == "" {
		goto noText
	}
	if len(rest) > longest {
		return api.Word{}, api.ErrLong
	}
	if rest[0] == '0' && rest != "0" {
		goto noText
	}
	for i := range len(rest) {
		v := strings.IndexByte(digits, rest[i])
		if v < 0 {
			goto noText
		}
		d.take(uint64(v))
	}
	return api.Word(d.parts), api.OK
noText:
	return api.Word{}, api.ErrText
}

// Parts goes over the word's four numbers, the lowest first, each with its place.
func Parts(a api.Word) iter.Seq2[int, uint64] {
	return func(yield func(int, uint64) bool) {
		for i, p := range a {
			if !yield(i, p) {
				return
			}
		}
	}
}
