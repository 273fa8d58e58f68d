package region_test

import (
	"math"
	"slices"

	"excise/api"
)

// noise tells numbers without a pattern, the same ones each time.
func noise() func(below int) int {
	n := uint64(0x9e3779b97f4a7c15)
	return func(below int) int {
		n ^= n << 13
		n ^= n >> 7
		n ^= n << 17
		return int((n >> 20) % uint64(below))
	}
}

// maker makes code of branches within branches.
type maker struct {
	code  []byte
	marks []int         // the places of marks, by their numbers
	todo  map[int]int   // where the place of a mark is to be laid, with the mark's number
	next  func(int) int // noise
	wild  int           // one of so many pieces is none that belongs into a region; 0: none is
}

// newMaker makes nothing yet.
func newMaker(next func(int) int, wild int) *maker {
	return &maker{todo: map[int]int{}, next: next, wild: wild}
}

// op makes ops, bytes being theirs.
func (m *maker) op(l ...byte) { m.code = append(m.code, l...) }

// newMark is the number of a mark whose place is not known yet.
func (m *maker) newMark() int {
	m.marks = append(m.marks, 0)
	return len(m.marks) - 1
}

// mark makes a mark.
func (m *maker) mark(n int) {
	m.marks[n] = len(m.code)
	m.op(0x5b)
}

// jump makes a jump to a mark.
func (m *maker) jump(op byte, mark int) {
	m.todo[len(m.code)+1] = mark
	m.op(0x61, 0, 0, op)
}

// done is the code, with the places of its marks.
func (m *maker) done() []byte {
	for at, mark := range m.todo {
		m.code[at], m.code[at+1] = byte(m.marks[mark]>>8), byte(m.marks[mark])
	}
	return m.code
}

// even are runs of ops that leave the stack as high as it was.
func even() [][]byte {
	return [][]byte{{0x5f, 0x50}, {0x15}, {0x90}, {0x80, 0x50}, {0x82, 0x01}, {0x60, 0x5b, 0x50}, {0x92}, {0x30, 0x08, 0x58}, {0x50, 0x50, 0x36, 0x5f}, {0: 0x7f, 10: 0x57, 32: 0x0b, 33: 0x50}}
}

// odd are pieces that do not belong into a region, or change the stack's height.
func odd() [][]byte {
	return [][]byte{{0x50}, {0x5f}, {0x54}, {0x5a}, {0x00}, {0x0c}, {0x56}, {0x57}, {0x5f, 0x56}, {0x5f, 0x57}, {0xfe}, {0x51}, {0x01}}
}

// piece makes one of a program: ops, a branch with one side or with two, a jump round, or what is wild.
func (m *maker) piece(deep int) {
	switch kind := m.next(8); {
	case m.wild > 0 && m.next(m.wild) == 0:
		m.savage()
	case kind < 3 || deep == 0:
		l := even()
		m.op(l[m.next(len(l))]...)
	case kind < 5:
		end := m.newMark()
		m.op(0x5f)
		m.jump(0x57, end)
		m.pieces(deep - 1)
		m.mark(end)
	default:
		other, end := m.newMark(), m.newMark()
		m.op(0x5f)
		m.jump(0x57, other)
		m.pieces(deep - 1)
		m.op(0x5f)
		m.jump(0x56, end)
		m.mark(other)
		m.pieces(deep - 1)
		m.op(0x5f)
		m.mark(end)
	}
}

// savage makes what is wild: ops, or a jump to any mark, from which ways may come round.
func (m *maker) savage() {
	if l := odd(); m.next(2) == 0 || len(m.marks) == 0 {
		m.op(l[m.next(len(l))]...)
	} else {
		m.jump(byte(0x56+m.next(2)), m.next(len(m.marks)))
	}
}

// pieces makes some.
func (m *maker) pieces(deep int) {
	for range m.next(4) {
		m.piece(deep)
	}
}

// programs are code of branches within branches, some of them tame, some wild.
func programs() [][]byte {
	var l [][]byte
	next := noise()
	for i := range 1200 {
		m := newMaker(next, []int{0, 40, 10, 4}[i%4])
		m.pieces(1 + i%3)
		m.piece(2)
		l = append(l, m.done())
	}
	return l
}

// short is all code that begins with a JUMPI to a place near it, with so many bytes at most behind it.
func short(most int) [][]byte {
	var l [][]byte
	bytesOf := []byte{0x00, 0x06, 0x07, 0x50, 0x56, 0x57, 0x5b, 0x5f, 0x60}
	for place := range byte(5) {
		all := [][]byte{{0x60, 3 + place, 0x57}}
		for from, n := 0, 0; n < most; n++ {
			to := len(all)
			for _, c := range all[from:to] {
				for _, b := range bytesOf {
					all = append(all, append(slices.Clone(c), b))
				}
			}
			from = to
		}
		l = append(l, all...)
	}
	return l
}

// unit is how many bytes a unit has.
const unit = 9

// units are code of units: each is a block that goes to one target or to the block behind it, which goes to another target. A target is the number of a unit; there being none of it, one leaves the code.
func units(next func(int) int, targets ...[2]int) []byte {
	at := func(target int) byte {
		if target >= len(targets) {
			return 0xff
		}
		return byte(unit * target)
	}
	ops := []byte{0x15, 0x15, 0x90, 0x19, 0x58, 0x50, 0x36, 0x80}
	var c []byte
	for _, t := range targets {
		c = append(c, 0x5b, ops[next(4)], 0x60, at(t[0]), 0x57, ops[next(len(ops))], 0x60, at(t[1]), 0x56)
	}
	return append(c, 0)
}

// webs are code of units that go anywhere: all of them of up to two units, and many greater ones, in most of which ways come round seldom.
func webs() [][]byte {
	var l [][]byte
	next := noise()
	for n := 1; n <= 2; n++ {
		for code := range int(math.Pow(float64(n+1), float64(2*n))) {
			targets := make([][2]int, n)
			for i := range targets {
				for k := range 2 {
					targets[i][k] = code % (n + 1)
					code /= n + 1
				}
			}
			l = append(l, units(next, targets...))
		}
	}
	for range 1000 {
		n := 2 + next(10)
		targets := make([][2]int, n)
		for i := range targets {
			for k := range 2 {
				targets[i][k] = min(n-1, i+1+next(3))
				if next(4*n) == 0 {
					targets[i][k] = next(n + 1)
				}
			}
		}
		targets[n-1] = [2]int{n, n}
		l = append(l, units(next, targets...))
	}
	return l
}

// samples are code of each kind: short, of branches within branches, of units, without a pattern.
func samples() [][]byte {
	l := slices.Concat(short(3), programs(), webs())
	next := noise()
	for range 300 {
		c := make([]byte, next(120))
		for i := range c {
			c[i] = byte(next(256))
		}
		l = append(l, c)
	}
	return l
}

// chain makes so many branches, one behind the other, each with a side of its own of two ops: of each 16 to 20 gas.
func (m *maker) chain(many int) {
	for range many {
		end := m.newMark()
		m.op(0x5f)
		m.jump(0x57, end)
		m.op(0x5f, 0x50)
		m.mark(end)
	}
}

// chains are code of a branch of which each side is such branches.
func chains(many, others int) []byte {
	m := newMaker(noise(), 0)
	other, end := m.newMark(), m.newMark()
	m.jump(0x57, other)
	m.chain(many)
	m.jump(0x56, end)
	m.mark(other)
	m.chain(others)
	m.mark(end)
	return m.done()
}

// nest is code of so many branches, each within the one ahead of it, all of which meet at one place, or each at a place of its own.
func nest(many int, one bool) []byte {
	m := newMaker(noise(), 0)
	end := m.newMark()
	ends := []int{end}
	for i := range many {
		if !one && i > 0 {
			end = m.newMark()
			ends = append(ends, end)
		}
		m.op(0x5f)
		m.jump(0x57, end)
		m.op(0x50, 0x5f)
	}
	for _, end := range slices.Backward(ends) {
		m.mark(end)
	}
	return m.done()
}

// asides are code of so many branches, each of which goes to the beginning of a line of so many marks, or to its end; it tells where they begin, and the end.
func asides(many, line int) (c []byte, first, end int) {
	m := newMaker(noise(), 0)
	start, last := m.newMark(), m.newMark()
	m.mark(start)
	for range line {
		m.op(0x5b)
	}
	m.mark(last)
	m.op(0x00)
	first = len(m.code)
	for range many {
		m.op(0x5f)
		m.jump(0x57, start)
		m.jump(0x56, last)
	}
	return m.done(), first, m.marks[last]
}

// most is how many of a size are as long as an account's code may be.
func most(size int) int { return (api.MaxCode - 8) / size }
