package region_test

import (
	"bytes"
	"encoding/hex"
	"math"
	"slices"
	"testing"

	"excise/api"
	"excise/code"
	"excise/region"
)

// placed is a region, and the place of its JUMPI.
type placed struct {
	at int
	r  api.Region
}

// all are those that All tells.
func all(c []byte) []placed {
	var l []placed
	for at, r := range region.All(c) {
		l = append(l, placed{at, r})
	}
	return l
}

// rising are the right ones, as All is to tell them.
func rising(want map[int]answer) []placed {
	var l []placed
	for at, a := range want {
		l = append(l, placed{at, a.region})
	}
	slices.SortFunc(l, func(a, b placed) int { return a.at - b.at })
	return l
}

// read are the bytes of digits.
func read(t *testing.T, digits string) []byte {
	t.Helper()
	c, err := hex.DecodeString(digits)
	if err != nil {
		t.Fatal(err)
	}
	return c
}

// example is the document's.
const example = "600a576001600d5600005b60025b00"

func TestExample(t *testing.T) {
	c := read(t, example)
	r, is := region.Of(c, 2)
	if want := (api.Region{Meet: 13, Least: 4, Most: 14, Low: 0, High: 2, Height: 1}); r != want || !is {
		t.Errorf("Of(2) = %v, %v, want %v", r, is, want)
	}
	if g := region.Within(c, 2); !slices.Equal(g, []int{3, 10}) {
		t.Errorf("Within(2) = %v", g)
	}
	if g, is := region.Of(c, 7); g != (api.Region{}) || is {
		t.Errorf("Of(7) = %v, %v", g, is)
	}
	if region.Fits(r, 3, 4) || !region.Fits(r, 0, 2) {
		t.Error("Fits of it, 3 and 4, or of it, 0 and 2")
	}
}

// far are places that no code has.
var far = []int{math.MinInt, math.MinInt32, -256, -2, -1, 1 << 16, math.MaxInt32, 1 << 32, math.MaxInt}

// check holds all that is told of code against what is right.
func check(t *testing.T, c []byte) {
	t.Helper()
	want := right(c)
	if g := all(c); !slices.Equal(g, rising(want)) {
		t.Errorf("All(%x) tells %v, want %v", c, g, rising(want))
	}
	for place := range len(c) + 2 {
		if x := place; place >= len(c) || c[x] == 0x57 || x < 2 {
			checkPlace(t, c, want, place)
		}
	}
}

// checkPlace holds what is told of a place of code against what is right.
func checkPlace(t *testing.T, c []byte, want map[int]answer, place int) {
	t.Helper()
	a, is := want[place]
	if g, ok := region.Of(c, place); g != a.region || ok != is {
		t.Errorf("Of(%x, %d) = %v, %v, want %v, %v", c, place, g, ok, a.region, is)
	}
	if g := region.Within(c, place); !slices.Equal(g, a.within) {
		t.Errorf("Within(%x, %d) = %v, want %v", c, place, g, a.within)
	}
}

// none are codes none of whose JUMPIs has a region.
var none = map[string]string{
	"no code":                           "",
	"no jump":                           "60035b00",
	"a JUMP":                            "6003565b00",
	"in a PUSH's bytes":                 "636005575f505b00",
	"to what is no mark":                "60045700005b00",
	"to itself":                         "60025700",
	"to a PUSH's byte":                  "600457605b5b00",
	"far off":                           "6801000000000000000b575b00",
	"where the code ends":               "5b600057",
	"not fixed":                         "600480575b00",
	"a mark between":                    "60055b57155b00",
	"no PUSH ahead":                     "575b",
	"both sides end":                    "6004570000005b00",
	"one side ends":                     "600457005b00",
	"a height of its own":               "6004575f5b00",
	"a word less":                       "600457505b00",
	"SLOAD":                             "600457545b00",
	"SLOAD, deep in it":                 "600c575f600a575f54505b155b00",
	"GAS":                               "6005575a505b00",
	"EXP":                               "600557800a5b00",
	"no op":                             "6004570c5b00",
	"an inner jump that is not fixed":   "6006575f80565b00",
	"an inner JUMPI that is not fixed":  "6008575f5f8057505b00",
	"an inner jump to what is no mark":  "6006576002565b00",
	"an inner JUMPI to what is no mark": "6008575f6002575b5b00",
	"a side that never ends":            "6008575b600356005b00",
	"the other side never ends":         "600657600a565b6006565b00",
	"a side that may never end":         "600f575f600957600f565b600956005b00",
	"none ends":                         "6006575b60035b600356",
	"round and round":                   "5b6007575f56005b00",
	"round, or on":                      "5b5f5700",
	"round within a side":               "60095b57155b5f600557155b00",
}

func TestP131None(t *testing.T) {
	for name, digits := range none {
		c := read(t, digits)
		if g := all(c); len(g) != 0 {
			t.Errorf("%s: All tells %v", name, g)
		}
		for place := range c {
			if g, is := region.Of(c, place); g != (api.Region{}) || is {
				t.Errorf("%s: Of(%d) = %v, %v", name, place, g, is)
			}
			if g := region.Within(c, place); len(g) != 0 {
				t.Errorf("%s: Within(%d) = %v", name, place, g)
			}
		}
		check(t, c)
	}
}

// told is what is told of a JUMPI.
type told struct {
	at     int
	r      api.Region
	within []int
}

func TestP131OfCases(t *testing.T) {
	for digits, want := range map[string][]told{
		"6005575f505b00":         {{2, api.Region{Meet: 5, Most: 4, High: 1}, []int{3}}}, // one side has no ops
		"6003575b00":             {{2, api.Region{Meet: 3}, nil}},                        // both go to the meet
		"6003575b":               {{2, api.Region{Meet: 3}, nil}},                        // there the code ends
		"6003575b61":             {{2, api.Region{Meet: 3}, nil}},
		"6003575b5456":           {{2, api.Region{Meet: 3}, nil}}, // what the meet does is not looked at
		"55600557155b00":         {{3, api.Region{Meet: 5, Most: 3, Low: -1}, []int{4}}},
		"600557505f5b00":         {{2, api.Region{Meet: 5, Most: 4, Low: -1}, []int{3}}},
		"6005578f505b00":         {{2, api.Region{Meet: 5, Most: 5, Low: -16, High: 1}, []int{3}}},
		"6004579f5b00":           {{2, api.Region{Meet: 4, Most: 3, Low: -17}, []int{3}}},
		"6006575f5f085b00":       {{2, api.Region{Meet: 6, Most: 12, Low: -1, High: 2}, []int{3}}},
		"600757506009565b505b00": {{2, api.Region{Meet: 9, Least: 3, Most: 13, Low: -1, Height: -1}, []int{3, 7}}},
		"600b575f6009575f505b155b00": { // one within another one
			{2, api.Region{Meet: 11, Most: 23, Low: -1, High: 2}, []int{3, 7, 9}},
			{6, api.Region{Meet: 9, Most: 4, High: 1}, []int{7}},
		},
		"5b6007575f15505b60005700": {{3, api.Region{Meet: 7, Most: 7, High: 1}, []int{4}}},    // round from its meet
		"600657155b905b60045700":   {{2, api.Region{Meet: 6, Most: 7, Low: -2}, []int{3, 4}}}, // into the midst of it
		"56600757155b905b00":       {{3, api.Region{Meet: 7, Most: 7, Low: -2}, []int{4, 5}}}, // to which nobody comes
		"600a576008575f505b155b00": {{5, api.Region{Meet: 8, Most: 4, High: 1}, []int{6}}},    // the outer one leaves other heights
	} {
		c := read(t, digits)
		var l []placed
		for _, w := range want {
			l = append(l, placed{w.at, w.r})
			if g, is := region.Of(c, w.at); g != w.r || !is {
				t.Errorf("Of(%s, %d) = %v, %v, want %v", digits, w.at, g, is, w.r)
			}
			if g := region.Within(c, w.at); !slices.Equal(g, w.within) {
				t.Errorf("Within(%s, %d) = %v, want %v", digits, w.at, g, w.within)
			}
		}
		if g := all(c); !slices.Equal(g, l) {
			t.Errorf("All(%s) tells %v, want %v", digits, g, l)
		}
		check(t, c)
	}
}

// TestP131Ops looks at each op on a side, what it takes and puts being put and taken there.
func TestP131Ops(t *testing.T) {
	for op := range 256 {
		info, is := code.Info(byte(op))
		side := slices.Concat(bytes.Repeat([]byte{0x5f}, info.In), []byte{byte(op)}, make([]byte, info.Size), bytes.Repeat([]byte{0x50}, info.Out))
		end := byte(3 + len(side))
		c := slices.Concat([]byte{0x60, end, 0x57}, side, []byte{0x5b, 0x00})
		gas := uint64(2*info.In+2*info.Out) + info.Gas
		want, has := api.Region{Meet: int(end), Most: gas, High: max(info.In, info.Out)}, is && info.Quiet
		if op == 0x5b {
			continue // it would be a block of its own
		}
		if !has {
			want = api.Region{}
		}
		if g, ok := region.Of(c, 2); g != want || ok != has {
			t.Errorf("of a side with %#02x Of tells %v, %v, want %v, %v", op, g, ok, want, has)
		}
	}
}

func TestP131(t *testing.T) {
	n, none := 0, 0
	for _, c := range samples() {
		check(t, c)
		has := len(all(c))
		n, none = n+has, none+bytes.Count(c, []byte{0x57})-has
	}
	if n < 2000 || none < 2000 {
		t.Errorf("the samples have %d regions, %d without", n, none)
	}
}

func TestP131Far(t *testing.T) {
	for _, c := range [][]byte{nil, {}, {0x57}, {0x60, 3, 0x57, 0x5b}} {
		for _, place := range far {
			checkPlace(t, c, nil, place)
		}
	}
}

func TestP132AllShort(t *testing.T) {
	for _, c := range short(4) {
		if g, want := all(c), rising(right(c)); !slices.Equal(g, want) {
			t.Errorf("All(%x) tells %v, want %v", c, g, want)
		}
	}
}

func TestP132LeftAndAgain(t *testing.T) {
	for _, c := range [][]byte{nil, nest(5, true), nest(4, false), chains(3, 2)} {
		each, want := region.All(c), rising(right(c))
		for stop := 1; stop <= len(want); stop++ {
			var got []placed
			each(func(at int, r api.Region) bool { got = append(got, placed{at, r}); return len(got) < stop })
			if !slices.Equal(got, want[:stop]) {
				t.Errorf("left at %d, it has told %v", stop, got)
			}
		}
		n, pairs := 0, 0
		for at, r := range each {
			if (placed{at, r}) != want[n] {
				t.Errorf("gone over again, it tells %v at %d", r, at)
			}
			n++
			for range each {
				pairs++
			}
		}
		if n != len(want) || pairs != n*n {
			t.Errorf("gone over within itself, it tells %d and %d", n, pairs)
		}
	}
}

func TestP132AsItWas(t *testing.T) {
	c := chains(3, 2)
	want := rising(right(c))
	each := region.All(c)
	c[3], c[len(c)-1] = 0x00, 0x00
	var got []placed
	for at, r := range each {
		got = append(got, placed{at, r})
		clear(c)
	}
	if !slices.Equal(got, want) || len(want) != 6 {
		t.Errorf("changed with the code: %v, want %v", got, want)
	}
}

func TestP132Fits(t *testing.T) {
	const least, most = math.MinInt, math.MaxInt
	for _, x := range []struct {
		low, high, height, most int
		want                    bool
	}{
		{0, 0, 0, 0, true},
		{0, 0, 1, 0, false},
		{0, 1, 0, 0, false},
		{0, 1, 0, 1, true},
		{-1, 0, 0, 9, false},
		{-1, 0, 1, 9, true},
		{-2, 0, 1, 9, false},
		{-17, 1, 17, 18, true},
		{-17, 1, 16, 18, false},
		{-17, 1, 17, 17, false},
		{0, 2, 1022, api.MaxStack, true},
		{0, 2, 1023, api.MaxStack, false},
		{0, 0, api.MaxStack, api.MaxStack, true},
		{0, 0, api.MaxStack + 1, api.MaxStack, false},
		{0, 0, -1, 9, false},
		{0, 0, -1, -1, false},
		{1, 0, -1, 9, true}, // as the numbers say, though no stack is so
		{1, 0, -1, -1, true},
		{1, 0, -1, -2, false},
		{0, 0, 0, -1, false},
		{0, -1, 0, -1, true},
		{0, 0, most, most, true},
		{0, 1, most, most, false},
		{0, most, 1, most, false},
		{0, most, most, most, false},
		{0, most, most, -2, false},
		{most, 0, most, most, true},
		{most, most, least, most, false},
		{most, most, least + 1, most, true},
		{most, most, least + 1, -1, false},
		{most, least, most, -1, true},
		{most, least, most, -2, false},
		{least, 0, most, most, false},
		{least, 0, least, most, false},
		{least, least, least, least, false},
		{0, least, 0, least, true},
		{1, least, 0, least, true},
		{1, least, -1, least, true},
		{1, least, 1, least, false},
		{0, least, most, most, true},
		{least + 1, 0, most, most, true},
		{least + 1, 0, most - 1, most, false},
	} {
		r := api.Region{Meet: 7, Least: 1, Most: 2, Low: x.low, High: x.high, Height: 1}
		if g := region.Fits(r, x.height, x.most); g != x.want {
			t.Errorf("Fits(%d to %d, %d, %d) = %v", x.low, x.high, x.height, x.most, g)
		}
	}
}

func TestP132FitsAll(t *testing.T) {
	for low := -3; low <= 3; low++ {
		for high := -3; high <= 3; high++ {
			for height := -4; height <= 4; height++ {
				for most := -4; most <= 4; most++ {
					r := api.Region{Low: low, High: high}
					if g, want := region.Fits(r, height, most), height+low >= 0 && height+high <= most; g != want {
						t.Errorf("Fits(%d to %d, %d, %d) = %v", low, high, height, most, g)
					}
				}
			}
		}
	}
}

// TestP133 goes ways from JUMPIs to their meets, op by op.
func TestP133(t *testing.T) {
	next := noise()
	for _, c := range slices.Concat(programs(), webs(), [][]byte{nest(30, true), nest(30, false), chains(60, 40)}) {
		w := webOf(c)
		for at, r := range region.All(c) {
			for range 5 {
				way := w.stroll(next, at, r.Meet)
				s := w.sum(way)
				if s.Least < r.Least || s.Most > r.Most || s.Low < r.Low || s.High > r.High || s.Height != r.Height {
					t.Fatalf("of %x a way from %d over %v has %v, the region %v", c, at, way, s, r)
				}
				within := region.Within(c, at)
				if slices.ContainsFunc(way, func(place int) bool { return !slices.Contains(within, place) }) {
					t.Fatalf("of %x a way from %d over %v is not within %v", c, at, way, within)
				}
			}
		}
	}
}

// stroll goes a way from a JUMPI to a meet.
func (w web) stroll(next func(int) int, at, meet int) []int {
	var way []int
	for _, b := range w.blocks {
		if b.Last != at {
			continue
		}
		for place := b.Next[next(len(b.Next))]; place != meet; {
			way = append(way, place)
			b := w.blocks[place]
			place = b.Next[next(len(b.Next))]
		}
	}
	return way
}

// TestLong looks at code as long as an account's may be, of very many ways through branches one behind the other.
func TestLong(t *testing.T) {
	many, others := most(16), most(16)-100
	c := chains(many, others)
	l := all(c)
	want := api.Region{Meet: len(c) - 1, Least: uint64(16*others + 1), Most: uint64(20*many + 11), High: 2}
	if len(l) != 1+many+others || l[0] != (placed{3, want}) {
		t.Fatalf("chains have %d regions, the outer one %v, want %v", len(l), l[0], want)
	}
	for _, x := range l[1:] {
		if want := (api.Region{Meet: x.at + 3, Most: 4, High: 1}); x.r != want {
			t.Fatalf("the region at %d is %v, want %v", x.at, x.r, want)
		}
	}
	if g := region.Within(c, 3); len(g) != 2*(many+others)+2 || !slices.IsSorted(g) || g[0] != 4 || slices.Contains(g, len(c)-1) {
		t.Errorf("within the outer one there are %d blocks", len(g))
	}
}

// TestLongNest looks at branches within branches.
func TestLongNest(t *testing.T) {
	for _, one := range []bool{true, false} {
		size, step := 8, 20
		if one {
			size, step = 7, 19
		}
		many := most(size)
		c := nest(many, one)
		l := all(c)
		if len(l) != many {
			t.Fatalf("a nest of %d has %d regions", many, len(l))
		}
		for i, x := range l {
			want := api.Region{Meet: len(c) - 1, Most: uint64(4 + step*(many-1-i)), Low: -1, High: 2}
			if !one {
				want.Meet -= i
			}
			if i+1 == many {
				want.High = 0
			}
			if x != (placed{7*i + 4, want}) {
				t.Fatalf("in a nest of %d the region at %d is %v, want %v", many, x.at, x.r, want)
			}
		}
		if r, is := region.Of(c, 4); r != l[0].r || !is || len(region.Within(c, 4)) != many+(many-1)*(size-7) {
			t.Errorf("the outermost region is %v, %v, with %d blocks", r, is, len(region.Within(c, 4)))
		}
	}
}

// TestLongAside looks at very many branches that may each go to the beginning of a long line, and to its end.
func TestLongAside(t *testing.T) {
	line := api.MaxCode / 2
	many := most(9) / 2
	c, first, end := asides(many, line)
	l := all(c)
	if len(l) != many {
		t.Fatalf("of %d there are %d regions", many, len(l))
	}
	for i, x := range l {
		if want := (placed{first + 9*i + 4, api.Region{Meet: end, Least: 11, Most: uint64(line + 1), High: 1}}); x != want {
			t.Fatalf("the region at %d is %v, want %v", x.at, x.r, want)
		}
	}
}

// TestLongNone looks at long code without regions: of jumps to all marks, of nothing but marks, and where all branches come round.
func TestLongNone(t *testing.T) {
	loose := bytes.Repeat([]byte{0x57, 0x5b}, api.MaxCode/2)
	marks := bytes.Repeat([]byte{0x5b}, api.MaxCode)
	round := bytes.Repeat([]byte{0x5b, 0x60, 0x00, 0x57}, api.MaxCode/4)
	for _, c := range [][]byte{loose, marks, round} {
		if g := all(c); len(g) != 0 {
			t.Errorf("of %x.. there are %d regions", c[:8], len(g))
		}
		for place := range 4 {
			if g, is := region.Of(c, place); is || len(region.Within(c, place)) != 0 {
				t.Errorf("of %x.. Of(%d) = %v", c[:8], place, g)
			}
		}
	}
}

func TestKeepsWhatIsHandedIn(t *testing.T) {
	for _, c := range slices.Concat(short(2), programs()[:100], webs()[:100]) {
		room := append(slices.Clone(c), bytes.Repeat([]byte{0x56}, 40)...)
		was := slices.Clone(room)
		b := room[:len(c)]
		all(b)
		for place := range len(b) + 1 {
			region.Of(b, place)
			region.Within(b, place)
		}
		if !bytes.Equal(room, was) {
			t.Errorf("what was handed in has become %x, it was %x", room, was)
		}
	}
}

func TestNewMemory(t *testing.T) {
	c := chains(3, 2)
	want := right(c)[3].within
	l, again := region.Within(c, 3), region.Within(c, 3)
	clear(l[:cap(l)])
	if g := region.Within(c, 3); !slices.Equal(again, want) || !slices.Equal(g, want) || len(want) != 12 {
		t.Errorf("changed with another answer: %v and %v, want %v", again, g, want)
	}
}
