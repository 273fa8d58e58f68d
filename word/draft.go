package word

import (
	"math/bits"

	"excise/api"
)

// parts are the four numbers of a word, changed on the spot.
type parts api.Word

// addAt adds a number at a place, and carries on; what goes past the highest part is lost.
func (p *parts) addAt(place int, n uint64) {
	for carry := n; carry != 0 && place < len(p); place++ {
		p[place], carry = bits.Add64(p[place], carry, 0)
	}
}

// shift moves all bits up, by fewer than 64 places.
func (p *parts) shift(width int) {
	var low uint64
	for i, n := range p {
		p[i] = n<<width | low
		low = n >> (64 - width)
	}
}

// draft is a word under way, to which digits of a width in bits are hung on, the highest first.
type draft struct {
	parts
	width int
}

// take hangs a digit on.
func (d *draft) take(digit uint64) {
	d.shift(d.width)
	d.addAt(0, digit)
}
