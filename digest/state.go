package digest

import "math/bits"

// How a state is laid out and turned over, and of what register the rounds' numbers come.
const (
	side         = 5
	count        = side * side
	rounds       = 24
	size         = 32
	markBits     = 7
	registerMost = 255
	registerFold = 0x171
)

// numbers are those of a state: the column x and the row y have that at x + 5y.
type numbers [count]uint64

// row tells a row's numbers, on the spot.
func (s *numbers) row(y int) *[side]uint64 { return (*[side]uint64)(s[side*y:]) }

// columns lays on each number the columns at both of its sides, one of them turned.
func (s *numbers) columns() {
	all := *s.row(0)
	for y := 1; y < side; y++ {
		layOn(&all, s.row(y))
	}
	var both [side]uint64
	for x := range both {
		both[x] = all[(x+side-1)%side] ^ bits.RotateLeft64(all[(x+1)%side], 1)
	}
	for y := range side {
		layOn(s.row(y), &both)
	}
}

// places moves each number but the first one into the next one's place, turned.
func (s *numbers) places() {
	x, y := uint(1), uint(0)
	moved := s[x+side*y]
	for t := range count - 1 {
		x, y = y, (2*x+3*y)%side
		next := &s[x+side*y]
		moved, *next = *next, bits.RotateLeft64(moved, (t+1)*(t+2)/2)
	}
}

// rows lays on each number what the next one lacks and the one behind that has.
func (s *numbers) rows() {
	for y := range side {
		row := s.row(y)
		round := [...]uint64{row[0], row[1], row[2], row[3], row[4], row[0], row[1]} // so that none is sought modulo 5, most of a round's time
		for x := range row {
			row[x] ^= ^round[x+1] & round[x+2]
		}
	}
}

// first tells the first bytes, of each number the lowest one first.
func (s *numbers) first() [size]byte {
	var b [size]byte
	for i := range b {
		b[i] = byte(s[i/numberBytes] >> (i % numberBytes * byteBits))
	}
	return b
}

// layOn lays a row on another one.
func layOn(on, row *[side]uint64) {
	for x, n := range row {
		on[x] ^= n
	}
}

// underWay is a state under way: its numbers, and the number of the round that it is in.
type underWay struct {
	numbers
	mark uint64
}

// marked lays on the round's number, without which all rounds would be alike.
func (u *underWay) marked() { u.numbers[0] ^= u.mark }

// turn turns the state over, by the rounds' numbers.
func (u *underWay) turn(marks [rounds]uint64) {
	round := [...]func(*underWay){(*underWay).columns, (*underWay).places, (*underWay).rows, (*underWay).marked}
	for _, mark := range marks {
		u.mark = mark
		inOrder(u, round)
	}
}

// inOrder does a round's steps on a thing, one behind the other.
func inOrder[T any](on T, steps [4]func(T)) {
	for _, step := range steps {
		step(on)
	}
}
