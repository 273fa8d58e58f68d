package big

import (
	"math"
	"math/bits"
)

// A number is counted with by digits of 64 bits, the lowest first.
const (
	digitBits  = 64
	digitBytes = digitBits / byteBits
)

// number is a number's bytes.
type number []byte

// digits are the number's, with no nought on top.
func (b number) digits() []uint64 {
	var l []uint64
	for rest := bare(b); len(rest) > 0; {
		at := max(len(rest)-digitBytes, 0)
		l = append(l, fold(0, func(digit uint64, c byte) uint64 { return digit<<byteBits | uint64(c) }, rest[at:]...))
		rest = rest[:at:at]
	}
	return l
}

// told is the bytes of digits, as many as the number has.
func (b number) told(digits []uint64) []byte {
	l := make([]byte, len(b))
	for i := range min(len(l), len(digits)*digitBytes) {
		l[len(l)-1-i] = byte(digits[i/digitBytes] >> (i % digitBytes * byteBits))
	}
	return l
}

// modulus is one under way: its bytes, its digits moved up by so many bits that the highest one is 1, what these lack of a 1 on top of them, and room for a product.
type modulus struct {
	number
	full []uint64
	up   int
	lack []uint64
	room []uint64
}

// begun is a modulus that is not nought.
func begun(m number) modulus {
	digits := m.digits()
	many := len(digits)
	up := bits.LeadingZeros64(digits[many-1])
	full, lack := make([]uint64, many), make([]uint64, many)
	add(full, digits, 1<<up)
	borrow := uint64(0)
	for i, digit := range full {
		lack[i], borrow = bits.Sub64(0, digit, borrow)
	}
	return modulus{m, full, up, lack, make([]uint64, 2*many)}
}

// power is the bytes of what is left of a power. It is left by the digits that are moved up first, which are a multiple of the modulus, and by the modulus itself at the end alone.
func (m modulus) power(a, n number) []byte {
	base := m.base(a)
	product := make([]uint64, len(m.full))
	product[0] = 1
	for once := range Bits(n) {
		m.multiply(product, product)
		if once {
			m.multiply(product, base)
		}
	}
	return m.told(m.down(product))
}

// base is the digits of what is left of a number.
func (m modulus) base(a number) []uint64 {
	digits := a.digits()
	lacking := max(len(m.full)-len(digits), 0)
	return m.rest(append(digits, make([]uint64, lacking+1)...)) // a nought on top makes the highest ones less than the modulus
}

// multiply makes of digits what is left of their product with others.
func (m modulus) multiply(digits, by []uint64) {
	clear(m.room)
	many := len(digits)
	for i, digit := range digits {
		m.room[i+many] = add(m.room[i:i+many:i+many], by, digit)
	}
	copy(digits, m.rest(m.room))
}

// rest makes of digits what is left of them; the highest ones, as many as the modulus has, are less than it.
func (m modulus) rest(digits []uint64) []uint64 {
	many := len(m.full)
	for at := len(digits) - many - 1; at >= 0; at-- {
		m.step(digits[at : at+many+1 : at+many+1])
	}
	return digits[:many:many]
}

// step makes of digits what is left of them; they are one more than the modulus has, and all but the lowest are less than it.
func (m modulus) step(digits []uint64) {
	many := len(m.full)
	low := digits[:many:many]
	q := guess(digits[many], digits[many-1], m.full[many-1])
	top := digits[many] + add(low, m.lack, q) - q
	for top != 0 { // it was taken too often: they are below nought
		top += add(low, m.full, 1)
	}
	digits[many] = top
}

// down is what is left of digits by the modulus itself.
func (m modulus) down(digits []uint64) []uint64 {
	many := len(digits)
	l := make([]uint64, many+1)
	l[many] = add(l[:many:many], digits, 1<<m.up)
	m.step(l)
	for i := range many {
		l[i] = l[i]>>m.up | l[i+1]<<(digitBits-m.up)
	}
	return l[:many:many]
}

// guess tells how often a modulus goes into digits, by both their highest ones and its own: at most twice too often.
func guess(first, second, by uint64) uint64 {
	if first >= by {
		return math.MaxUint64
	}
	q, _ := bits.Div64(first, second, by)
	return q
}

// add adds a number's digits so many times to as many others, and tells what is carried.
func add(on, l []uint64, times uint64) uint64 {
	at := 0
	return fold(0, func(carry, digit uint64) uint64 {
		high, low := bits.Mul64(digit, times)
		low, more := bits.Add64(low, carry, 0)
		high += more
		on[at], more = bits.Add64(on[at], low, 0)
		at++
		return high + more
	}, l...)
}
