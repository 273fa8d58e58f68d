package meet_test

import (
	"bytes"
	"encoding/hex"
	"maps"
	"math"
	"slices"
	"testing"

	"excise/api"
	"excise/flow"
	"excise/meet"
)

// none is a place that no block has.
const none = -1

// elsewhere are places at which no block of code begins: some within it, some behind it, and such that no code has.
func elsewhere(c []byte, w web) []int {
	l := []int{math.MinInt, math.MinInt32, -256, -2, -1, len(c), len(c) + 1, 1 << 16, math.MaxInt32, 1 << 32, math.MaxInt}
	for place := range c {
		if _, is := w[place]; !is && place < 40 {
			l = append(l, place)
		}
	}
	return l
}

// noise tells numbers without a pattern, the same ones each time.
func noise() func(below int) int {
	n := uint64(0x9e3779b97f4a7c15)
	return func(below int) int {
		n ^= n << 13
		n ^= n >> 7
		n ^= n << 17
		return int((n >> 20) % uint64(below))
	}
}

// short is all code of few ops that lead a way, up to so many bytes.
func short(most int) [][]byte {
	bytesOf := []byte{0x00, 0x01, 0x02, 0x03, 0x56, 0x57, 0x5b, 0x5f, 0x60}
	all := [][]byte{{}}
	for from := 0; most > 0; most-- {
		to := len(all)
		for _, c := range all[from:to] {
			for _, b := range bytesOf {
				all = append(all, append(slices.Clone(c), b))
			}
		}
		from = to
	}
	return all
}

// How many bytes a unit has, and where its second block begins.
const unit, half = 7, 4

// units are code of units: each is a block that goes to one target or to the block behind it, which goes to another target. A target is the number of a unit; there being none of it, one leaves the code.
func units(targets ...[2]int) []byte {
	at := func(target int) byte {
		if target >= len(targets) {
			return 0xff
		}
		return byte(unit * target)
	}
	var c []byte
	for _, t := range targets {
		c = append(c, 0x5b, 0x60, at(t[0]), 0x57, 0x60, at(t[1]), 0x56)
	}
	return c
}

// webs are code of units that go anywhere: all of them of up to three units, and many greater ones, of which some have few ways out and some have many.
func webs() [][]byte {
	var l [][]byte
	for n := 1; n <= 3; n++ {
		for code := range int(math.Pow(float64(n+1), float64(2*n))) {
			targets := make([][2]int, n)
			for i := range targets {
				for k := range 2 {
					targets[i][k] = code % (n + 1)
					code /= n + 1
				}
			}
			l = append(l, units(targets...))
		}
	}
	next := noise()
	for range 800 {
		n := 2 + next(24)
		targets := make([][2]int, n)
		far := 1 + next(n)
		for i := range targets {
			for k := range 2 {
				targets[i][k] = max(0, min(n-1, i+next(2*far+1)-far))
				if next(n) == 0 {
					targets[i][k] = n
				}
			}
		}
		targets[next(n)][next(2)] = n
		l = append(l, units(targets...))
	}
	return l
}

// samples are code of each kind: short, of units, without a pattern, with and without jumps that are not fixed.
func samples() [][]byte {
	l := slices.Concat(short(4), webs())
	next := noise()
	leading := []byte{0x5b, 0x5b, 0x5b, 0x56, 0x57, 0x57, 0x5f, 0x01, 0x80, 0x00, 0xfe, 0x0c, 0xf3, 0x61}
	for range 500 {
		c, few := make([]byte, next(120)), []byte(nil)
		for i := range c {
			c[i] = byte(next(256))
		}
		for range next(40) {
			switch b := leading[next(len(leading))]; next(3) {
			case 0:
				few = append(few, b)
			default:
				few = append(few, 0x5b, 0x60, byte(next(60)), byte(0x56+next(2)))
			}
		}
		l = append(l, c, few)
	}
	return l
}

// web is the blocks of code, by their first places.
type web map[int]api.Block

// webOf is that of code, as flow tells it.
func webOf(c []byte) web {
	w := web{}
	for _, b := range flow.Blocks(c) {
		w[b.First] = b
	}
	return w
}

// goes tells whether some way goes from a block to the exit that does not go through another one.
func (w web) goes(first, without int) bool {
	if _, is := w[first]; !is || first == without {
		return false
	}
	met := map[int]bool{first: true}
	for todo := []int{first}; len(todo) > 0; todo = todo[1:] {
		b := w[todo[0]]
		if b.Exit {
			return true
		}
		for _, to := range b.Next {
			if !met[to] && to != without {
				met[to] = true
				todo = append(todo, to)
			}
		}
	}
	return false
}

// behind tells the blocks that are behind one for sure, as the document says what that is.
func (w web) behind(first int) []int {
	var l []int
	if w.goes(first, none) {
		for place := range w {
			if !w.goes(first, place) {
				l = append(l, place)
			}
		}
	}
	slices.Sort(l)
	return l
}

// answers are those of all blocks: what is behind them, their meets, their lines.
type answers struct {
	web
	behinds map[int][]int
	meets   map[int]int
}

// right are the answers for code, as the document says what they are.
func right(c []byte) answers {
	a := answers{webOf(c), map[int][]int{}, map[int]int{}}
	for place := range a.web {
		a.behinds[place] = a.behind(place)
	}
	for place, all := range a.behinds {
		others := slices.DeleteFunc(slices.Clone(all), func(x int) bool { return x == place })
		for _, m := range others {
			if !slices.ContainsFunc(others, func(x int) bool { return !slices.Contains(a.behinds[m], x) }) {
				a.meets[place] = m
			}
		}
	}
	return a
}

// line is what Line is to tell.
func (a answers) line(first int) []int {
	var l []int
	if len(a.behinds[first]) == 0 {
		return nil
	}
	for is := true; is; first, is = a.meets[first] {
		l = append(l, first)
	}
	return l
}

// check holds what is told of a place of code against what is right.
func check(t *testing.T, c []byte, a answers, first int) {
	t.Helper()
	if g, want := meet.Ends(c, first), a.goes(first, none); g != want {
		t.Errorf("Ends(%x, %d) = %v", c, first, g)
	}
	if g, want := meet.Behind(c, first), a.behinds[first]; !slices.Equal(g, want) {
		t.Errorf("Behind(%x, %d) = %v, want %v", c, first, g, want)
	}
	want, is := a.meets[first]
	if g, ok := meet.Meet(c, first); g != want || ok != is {
		t.Errorf("Meet(%x, %d) = %d, %v, want %d, %v", c, first, g, ok, want, is)
	}
	if g, want := slices.Collect(meet.Line(c, first)), a.line(first); !slices.Equal(g, want) {
		t.Errorf("Line(%x, %d) tells %v, want %v", c, first, g, want)
	}
}

// read are the bytes of digits.
func read(t *testing.T, digits string) []byte {
	t.Helper()
	c, err := hex.DecodeString(digits)
	if err != nil {
		t.Fatal(err)
	}
	return c
}

// example is the document's.
const example = "60086006575f5b5f5b00"

func TestExample(t *testing.T) {
	c := read(t, example)
	if g := meet.Behind(c, 0); !slices.Equal(g, []int{0, 6, 8}) {
		t.Errorf("Behind(0) = %v", g)
	}
	if g, is := meet.Meet(c, 0); g != 6 || !is {
		t.Errorf("Meet(0) = %d, %v", g, is)
	}
	if g, is := meet.Meet(c, 6); g != 8 || !is {
		t.Errorf("Meet(6) = %d, %v", g, is)
	}
	if g, is := meet.Meet(c, 8); g != 0 || is {
		t.Errorf("Meet(8) = %d, %v", g, is)
	}
	if g := slices.Collect(meet.Line(c, 5)); !slices.Equal(g, []int{5, 6, 8}) {
		t.Errorf("Line(5) tells %v", g)
	}
	if meet.Ends(c, 1) {
		t.Error("Ends(1)")
	}
	if g := meet.Meets(c); !maps.Equal(g, map[int]int{0: 6, 5: 6, 6: 8}) {
		t.Errorf("Meets = %v", g)
	}
}

func TestOfCases(t *testing.T) {
	const (
		sides = "600757600856005b5b00"             // 0 to 2: 3, 7; 3 to 5: 8; 6: exit; 7: 8; 8 to 9: exit
		round = "5b6007575f56005b00"               // 0 to 3: 4, 7; 4 to 5: 0; 6: exit; 7 to 8: exit
		stuck = "6008575b600356005b00"             // 0 to 2: 3, 8; 3 to 6: 3; 7: exit; 8 to 9: exit
		twice = "6007575b600b575b6003565b00"       // 0 to 2: 3, 7; 3 to 6: 7, 11; 7 to 10: 3; 11 to 12: exit
		cross = "600a575b600a57600e565b6003575b00" // 0 to 2: 3, 10; 3 to 6: 7, 10; 7 to 9: 14; 10 to 13: 3, 14; 14 to 15: exit
	)
	for _, x := range []struct {
		code  string
		first int
		line  []int
	}{
		{"", 0, nil},
		{"", -1, nil},
		{"00", 0, []int{0}},
		{"00", -1, nil},
		{"00", 1, nil},
		{"01", 0, []int{0}},   // the code ends
		{"0c", 0, []int{0}},   // no op
		{"61", 0, []int{0}},   // bytes that the code lacks
		{"5f56", 0, []int{0}}, // to what is no mark
		{"605b5600", 0, []int{0}},
		{"5b5b5b", 0, []int{0, 1, 2}},
		{"5b5b5b", 1, []int{1, 2}},
		{"5b5b5b", 2, []int{2}},
		{"5b5b5b", 3, nil},
		{"5b5f56", 0, nil}, // round and round
		{"5b5f565b00", 0, nil},
		{"5b5f565b00", 1, nil},
		{"5b5f565b00", 3, []int{3}},
		{"5b5f5700", 0, []int{0, 3}}, // round, or on
		{"5b5f57", 0, []int{0}},
		{"565b", 0, []int{0}}, // not fixed: to the mark, or out
		{"565b", 1, []int{1}},
		{"575b", 0, []int{0}},
		{"575b", 1, []int{1}},
		{"5b56", 0, []int{0}},
		{"5b5b56", 0, []int{0, 1}},
		{"6001575b", 0, []int{0}},           // on, or out
		{"6003575b5b00", 0, []int{0, 3, 4}}, // both ways to the same one
		{"6004575b5b00", 0, []int{0, 4}},    // one way past the other one
		{"6004575b5b00", 3, []int{3, 4}},    //
		{"60055700005b00", 0, []int{0}},     // both ways end
		{sides, 0, []int{0, 8}},
		{sides, 3, []int{3, 8}},
		{sides, 6, []int{6}},
		{sides, 7, []int{7, 8}},
		{sides, 9, nil},
		{round, 0, []int{0, 7}},
		{round, 4, []int{4, 0, 7}}, // not rising
		{stuck, 0, []int{0, 8}},    // a way that never ends does not count
		{stuck, 3, nil},
		{stuck, 8, []int{8}},
		{twice, 0, []int{0, 3, 11}},
		{twice, 3, []int{3, 11}},
		{twice, 7, []int{7, 3, 11}},
		{cross, 0, []int{0, 14}},
		{cross, 3, []int{3, 14}},
		{cross, 7, []int{7, 14}},
		{cross, 10, []int{10, 14}},
	} {
		c := read(t, x.code)
		if g := slices.Collect(meet.Line(c, x.first)); !slices.Equal(g, x.line) {
			t.Errorf("Line(%s, %d) tells %v, want %v", x.code, x.first, g, x.line)
		}
		check(t, c, right(c), x.first)
	}
}

func TestP121(t *testing.T) {
	for _, c := range samples() {
		a := right(c)
		for first := range a.web {
			check(t, c, a, first)
		}
	}
}

func TestP121Elsewhere(t *testing.T) {
	for i, c := range samples() {
		a := right(c)
		for _, first := range elsewhere(c, a.web) {
			if i%10 == 0 || len(c) < 3 {
				check(t, c, a, first)
			}
		}
	}
}

func TestP122Meets(t *testing.T) {
	for _, c := range slices.Concat(short(5), samples()) {
		if g, want := meet.Meets(c), right(c).meets; !maps.Equal(g, want) {
			t.Errorf("Meets(%x) = %v, want %v", c, g, want)
		}
	}
	if g := meet.Meets(nil); len(g) != 0 {
		t.Errorf("of no code Meets = %v", g)
	}
}

func TestP122LineLeftAndAgain(t *testing.T) {
	c := read(t, "6007575b600b575b6003565b00")
	for _, first := range []int{0, 3, 7, 11, 1, 12, -1} {
		each, want := meet.Line(c, first), right(c).line(first)
		for stop := 1; stop <= len(want); stop++ {
			var got []int
			each(func(place int) bool { got = append(got, place); return len(got) < stop })
			if !slices.Equal(got, want[:stop]) {
				t.Errorf("left at %d, it has told %v", stop, got)
			}
		}
		n, pairs := 0, 0
		for place := range each {
			if place != want[n] {
				t.Errorf("gone over again, it tells %d", place)
			}
			n++
			for range each {
				pairs++
			}
		}
		if n != len(want) || pairs != n*n {
			t.Errorf("gone over within itself, it tells %d and %d", n, pairs)
		}
	}
}

func TestP122LineAsItWas(t *testing.T) {
	c := read(t, "6007575b600b575b6003565b00")
	each := meet.Line(c, 7)
	c[0], c[10] = 0x5b, 0
	var got []int
	for place := range each {
		got = append(got, place)
		clear(c)
	}
	if !slices.Equal(got, []int{7, 3, 11}) {
		t.Errorf("changed with the code: %v", got)
	}
}

// TestP123 looks at what follows, by the package's own answers: Line is Behind, and on each way that ends.
func TestP123(t *testing.T) {
	next := noise()
	for _, c := range samples() {
		w := webOf(c)
		for first := range w {
			line := slices.Collect(meet.Line(c, first))
			if g := slices.Sorted(slices.Values(line)); !slices.Equal(g, meet.Behind(c, first)) {
				t.Errorf("of %x from %d Line tells %v, Behind %v", c, first, line, meet.Behind(c, first))
			}
			met, place := map[int]bool{}, first
			for range 200 {
				met[place] = true
				b := w[place]
				if b.Exit && (len(b.Next) == 0 || next(2) == 0) {
					if g := slices.DeleteFunc(slices.Clone(line), func(x int) bool { return met[x] }); len(line) == 0 || len(g) > 0 {
						t.Errorf("a way of %x from %d ends that does not go through %v of %v", c, first, g, line)
					}
					break
				}
				place = b.Next[next(len(b.Next))]
			}
		}
	}
}

// chain is code of blocks that may each go to the place that is told of it, too, or to the next one; the last one ends.
func chain(to func(place int) int) []byte {
	var c []byte
	for len(c)+6 <= api.MaxCode {
		place := to(len(c))
		c = append(c, 0x5b, 0x61, byte(place>>8), byte(place), 0x57)
	}
	return append(c, 0)
}

// TestLong looks at code as long as an account's may be: what is asked is answered soon, however many ways there are.
func TestLong(t *testing.T) {
	next := noise()
	back := func(place int) int { return max(0, place-5) }
	start := func(int) int { return 0 }
	anywhere := func(place int) int { return next(place/5+1) * 5 }
	for _, to := range []func(int) int{back, start, anywhere} {
		c := chain(to)
		l, meets := slices.Collect(meet.Line(c, 0)), meet.Meets(c)
		if len(l) != api.MaxCode/5+1 || len(meets) != len(l)-1 || !meet.Ends(c, 0) {
			t.Fatalf("a chain of %d bytes has a line of %d, and %d meets", len(c), len(l), len(meets))
		}
		for i, place := range l {
			if m, is := meets[place]; place != 5*i || is != (i+1 < len(l)) || is && m != place+5 {
				t.Fatalf("the meet of %d is %d, %v", place, m, is)
			}
		}
	}
	marks := bytes.Repeat([]byte{0x5b}, api.MaxCode)
	if l, meets := meet.Behind(marks, 1), meet.Meets(marks); len(l) != api.MaxCode-1 || len(meets) != api.MaxCode-1 {
		t.Errorf("of nothing but marks there are %d behind one, and %d meets", len(l), len(meets))
	}
	loose := bytes.Repeat([]byte{0x57, 0x5b}, api.MaxCode/2)
	if l, meets := meet.Behind(loose, 1), meet.Meets(loose); !slices.Equal(l, []int{1}) || len(meets) != 0 || !meet.Ends(loose, 3) {
		t.Errorf("of jumps to all marks there are %v behind one, and %d meets", l, len(meets))
	}
}

// TestLongAside looks at very many blocks that may each go to the beginning of a long line, and to its end.
func TestLongAside(t *testing.T) {
	for _, swap := range []bool{false, true} {
		c := []byte{0x60, 0x03, 0x56, 0x5b, 0x5b, 0x00}
		start, end := len(c), 4
		c = append(c, bytes.Repeat([]byte{0x5b}, api.MaxCode/2)...)
		c = append(c, 0x5f+1, byte(end), 0x56)
		aside := len(c)
		one, other := start, end
		if swap {
			one, other = end, start
		}
		for len(c)+9 <= api.MaxCode {
			c = append(c, 0x5b, 0x61, byte(one>>8), byte(one), 0x57, 0x61, byte(other>>8), byte(other), 0x56)
		}
		meets := meet.Meets(c)
		for place := aside; place+9 <= len(c); place += 9 {
			if m, is := meets[place]; m != end || !is {
				t.Fatalf("the meet of %d is %d, %v", place, m, is)
			}
		}
	}
}

func TestKeepsWhatIsHandedIn(t *testing.T) {
	for _, c := range slices.Concat(short(3), webs()[:200]) {
		room := append(slices.Clone(c), bytes.Repeat([]byte{0x56}, 40)...)
		was := slices.Clone(room)
		b := room[:len(c)]
		meet.Meets(b)
		for place := range len(b) + 1 {
			meet.Ends(b, place)
			meet.Behind(b, place)
			meet.Meet(b, place)
			for range meet.Line(b, place) {
			}
		}
		if !bytes.Equal(room, was) {
			t.Errorf("what was handed in has become %x, it was %x", room, was)
		}
	}
}

func TestNewMemory(t *testing.T) {
	c := read(t, example)
	l, again := meet.Behind(c, 0), meet.Behind(c, 0)
	clear(l[:cap(l)])
	meets, others := meet.Meets(c), meet.Meets(c)
	clear(meets)
	empty := meet.Meets(nil)
	empty[1] = 2
	if want := []int{0, 6, 8}; !slices.Equal(again, want) || !slices.Equal(meet.Behind(c, 0), want) || len(others) != 3 || len(meet.Meets(c)) != 3 || len(meet.Meets(nil)) != 0 {
		t.Errorf("changed with other answers: %v, %v", again, others)
	}
}
