package flow_test

import (
	"bytes"
	"encoding/hex"
	"fmt"
	"math"
	"slices"
	"strings"
	"testing"

	"excise/api"
	"excise/flow"
)

// placed is an op at its place, with the place behind it and its bytes.
type placed struct {
	at, behind int
	op         byte
}

// list tells the ops of code, made without the packages that are tested.
func list(c []byte) []placed {
	var l []placed
	for at := 0; at < len(c); {
		behind := at + 1
		if c[at] >= 0x60 && c[at] <= 0x7f {
			behind += int(c[at]) - 0x5f
		}
		l = append(l, placed{at, behind, c[at]})
		at = behind
	}
	return l
}

// known tells whether the document has an op of that byte.
func known(op byte) bool {
	for _, r := range [][2]byte{{0x00, 0x0b}, {0x10, 0x1d}, {0x20, 0x20}, {0x30, 0x48}, {0x50, 0x5b}, {0x5f, 0xa4}, {0xf0, 0xf5}, {0xfa, 0xfa}, {0xfd, 0xff}} {
		if op >= r[0] && op <= r[1] {
			return true
		}
	}
	return false
}

// ending tells whether an op ends.
func ending(op byte) bool {
	return bytes.IndexByte([]byte{0x00, 0xf3, 0xfd, 0xfe, 0xff}, op) >= 0 || !known(op)
}

// jumping tells whether an op is a jump.
func jumping(op byte) bool { return op == 0x56 || op == 0x57 }

// pushed is what a PUSH of code puts, made without the packages that are tested.
func pushed(c []byte, x placed) api.Word {
	var w api.Word
	for i := x.at + 1; i < x.behind; i++ {
		at := x.behind - 1 - i
		if i < len(c) {
			w[at/8] |= uint64(c[i]) << (at % 8 * 8)
		}
	}
	return w
}

// fixed tells where the fixed jump that is the op of a number goes to, and whether it is one.
func fixed(c []byte, l []placed, i int) (api.Word, bool) {
	if i == 0 || !jumping(l[i].op) || l[i-1].op < 0x5f || l[i-1].op > 0x7f {
		return api.Word{}, false
	}
	return pushed(c, l[i-1]), true
}

// homes are the first places of the blocks of all ops.
func homes(c []byte) []int {
	var h []int
	l := list(c)
	for i, x := range l {
		if i == 0 || x.op == 0x5b || jumping(l[i-1].op) || ending(l[i-1].op) {
			h = append(h, x.at)
		} else {
			h = append(h, h[i-1])
		}
	}
	return h
}

// blocks are those of code, made without the packages that are tested.
func blocks(c []byte) []api.Block {
	var all []api.Block
	l, h := list(c), homes(c)
	var marks []int
	for _, x := range l {
		if x.op == 0x5b {
			marks = append(marks, x.at)
		}
	}
	for i, x := range l {
		if i+1 < len(l) && h[i+1] == h[i] { // it is not the last one of its block
			continue
		}
		b := api.Block{First: h[i], Last: x.at}
		next := map[int]bool{}
		if !ending(x.op) && x.op != 0x56 {
			if i+1 < len(l) {
				next[l[i+1].at] = true
			} else {
				b.Exit = true
			}
		}
		to, is := fixed(c, l, i)
		switch {
		case ending(x.op):
			b.Exit = true
		case !jumping(x.op):
		case !is:
			b.Exit = true
			for _, m := range marks {
				next[m] = true
			}
		case slices.ContainsFunc(marks, func(m int) bool { return to == api.Word{uint64(m)} }):
			next[int(to[0])] = true
		default:
			b.Exit = true
		}
		for at := range c {
			if next[at] {
				b.Next = append(b.Next, at)
			}
		}
		all = append(all, b)
	}
	return all
}

// times tells how many times one must go on at least from a block to each one to which one may come.
func times(l []api.Block, first int) map[int]int {
	far := map[int]int{}
	for _, b := range l {
		if b.First == first {
			far[first] = 0
		}
	}
	for changed := true; changed; {
		changed = false
		for _, b := range l {
			n, is := far[b.First]
			if !is {
				continue
			}
			for _, to := range b.Next {
				if m, was := far[to]; !was || m > n+1 {
					far[to], changed = n+1, true
				}
			}
		}
	}
	return far
}

// told is what a walk tells.
type told struct{ place, times int }

// walk is what Walk tells.
func walk(c []byte, first int) []told {
	var l []told
	for place, n := range flow.Walk(c, first) {
		l = append(l, told{place, n})
	}
	return l
}

// rightWalk is a walk, made without the packages that are tested.
func rightWalk(far map[int]int) []told {
	var l []told
	for place, n := range far {
		l = append(l, told{place, n})
	}
	slices.SortFunc(l, func(a, b told) int {
		if a.times != b.times {
			return a.times - b.times
		}
		return a.place - b.place
	})
	return l
}

// noise tells numbers without a pattern, the same ones each time.
func noise() func(below int) int {
	n := uint64(0x9e3779b97f4a7c15)
	return func(below int) int {
		n ^= n << 13
		n ^= n >> 7
		n ^= n << 17
		return int((n >> 20) % uint64(below))
	}
}

// short is all code of few ops that lead a way, up to so many bytes.
func short(most int) [][]byte {
	bytesOf := []byte{0x00, 0x01, 0x03, 0x04, 0x56, 0x57, 0x5b, 0x5f, 0x60}
	all := [][]byte{{}}
	for from := 0; most > 0; most-- {
		to := len(all)
		for _, c := range all[from:to] {
			for _, b := range bytesOf {
				all = append(all, append(slices.Clone(c), b))
			}
		}
		from = to
	}
	return all
}

// samples are code of each byte alone and beside marks and jumps, of jumps behind each PUSH, with too few bytes too, and code without a pattern, of all bytes and of those that lead a way.
func samples() [][]byte {
	l := short(4)
	for i := range 256 {
		b := byte(i)
		l = append(l, []byte{b}, []byte{b, 0x5b}, []byte{b, 0x01, 0x5b, b}, []byte{0x60, 0x03, b, 0x5b, b}, []byte{b, b, 0x5f, 0x57, 0x5b, b}, []byte{0x5b, b, 0x56, 0x5b, b, 0x57}, []byte{0x60, b, 0x57, 0x5b})
	}
	for n := 0; n <= 32; n++ {
		push := byte(0x5f + n)
		for have := range n + 1 {
			l = append(l, append([]byte{0x5b, push}, make([]byte, have)...))
		}
		target := make([]byte, n)
		for _, jump := range []byte{0x56, 0x57} {
			l = append(l, slices.Concat([]byte{0x5b, push}, target, []byte{jump, 0x5b, 0x01}))
			for k := range n {
				far := slices.Clone(target)
				far[k] = 1
				l = append(l, slices.Concat([]byte{0x5b, 0x5b, push}, far, []byte{jump, 0x5b}))
			}
		}
	}
	next := noise()
	leading := []byte{0x5b, 0x5b, 0x5b, 0x56, 0x57, 0x57, 0x5f, 0x01, 0x80, 0x00, 0xfe, 0x0c, 0xf3, 0x61}
	for range 300 {
		c, few := make([]byte, next(120)), []byte(nil)
		for i := range c {
			c[i] = byte(next(256))
		}
		for range next(40) {
			switch b := leading[next(len(leading))]; next(3) {
			case 0:
				few = append(few, 0x60, byte(next(60)), byte(0x56+next(2)))
			default:
				few = append(few, b)
			}
		}
		l = append(l, c, few)
	}
	return l
}

// places are all of code, some behind it, and such that no code has.
func places(c []byte) []int {
	l := []int{math.MinInt, math.MinInt + 1, math.MinInt32, -256, -2, -1, 1 << 16, math.MaxInt32, 1 << 32, math.MaxInt - 1, math.MaxInt}
	for place := range len(c) + 34 {
		l = append(l, place)
	}
	return l
}

// text is blocks as they stand in the document's example.
func text(l []api.Block) string {
	var all []string
	for _, b := range l {
		var to []string
		for _, n := range b.Next {
			to = append(to, fmt.Sprint(n))
		}
		if b.Exit {
			to = append(to, "exit")
		}
		all = append(all, fmt.Sprintf("%d to %d: %s", b.First, b.Last, strings.Join(to, ", ")))
	}
	return strings.Join(all, "; ")
}

// alike tells whether blocks are the same; nil and empty lists are.
func alike(a, b []api.Block) bool {
	return slices.EqualFunc(a, b, func(a, b api.Block) bool {
		return a.First == b.First && a.Last == b.Last && a.Exit == b.Exit && slices.Equal(a.Next, b.Next)
	})
}

const example = "600456005b60015700"

func TestP111BlocksOfCases(t *testing.T) {
	for c, want := range map[string]string{
		"":                         "",
		example:                    "0 to 2: 4; 3 to 3: exit; 4 to 7: 8, exit; 8 to 8: exit",
		"00":                       "0 to 0: exit",
		"01":                       "0 to 0: exit",
		"0101":                     "0 to 1: exit",
		"60":                       "0 to 0: exit",
		"7f5b":                     "0 to 0: exit",
		"5b":                       "0 to 0: exit",
		"5b5b":                     "0 to 0: 1; 1 to 1: exit",
		"015b01":                   "0 to 0: 1; 1 to 2: exit",
		"0001f3fd01fe01ff0c":       "0 to 0: exit; 1 to 2: exit; 3 to 3: exit; 4 to 5: exit; 6 to 7: exit; 8 to 8: exit",
		"f0f1f2f4f5fa":             "0 to 5: exit", // which do not end
		"56":                       "0 to 0: exit",
		"57":                       "0 to 0: exit",
		"5701":                     "0 to 0: 1, exit; 1 to 1: exit",
		"5601":                     "0 to 0: exit; 1 to 1: exit",
		"565b5b":                   "0 to 0: 1, 2, exit; 1 to 1: 2; 2 to 2: exit",
		"57015b5b":                 "0 to 0: 1, 2, 3, exit; 1 to 1: 2; 2 to 2: 3; 3 to 3: exit",
		"575b":                     "0 to 0: 1, exit; 1 to 1: exit",
		"5b5b57":                   "0 to 0: 1; 1 to 2: 0, 1, exit",
		"5b5f56":                   "0 to 2: 0",
		"5b5f57":                   "0 to 2: 0, exit",
		"5b5f5700":                 "0 to 2: 0, 3; 3 to 3: exit",
		"5b60005600":               "0 to 3: 0; 4 to 4: exit",
		"6003575b":                 "0 to 2: 3; 3 to 3: exit", // to what is behind it, both ways
		"6003565b":                 "0 to 2: 3; 3 to 3: exit",
		"605b565b":                 "0 to 2: exit; 3 to 3: exit",
		"6001565b":                 "0 to 2: exit; 3 to 3: exit", // to the bytes of a PUSH
		"605b5b600156":             "0 to 0: 2; 2 to 5: exit",
		"6004565b61":               "0 to 2: exit; 3 to 4: exit",
		"6006800156005b":           "0 to 4: 6, exit; 5 to 5: exit; 6 to 6: exit", // a PUSH farther ahead fixes nothing
		"60055b56005b":             "0 to 0: 2; 2 to 3: 2, 5, exit; 4 to 4: exit; 5 to 5: exit",
		"60035b56":                 "0 to 0: 2; 2 to 3: 2, exit",
		"6200000456005b":           "0 to 4: exit; 5 to 5: exit; 6 to 6: exit",
		"6200000656005b":           "0 to 4: 6; 5 to 5: exit; 6 to 6: exit",
		"5b6801000000000000000056": "0 to 11: exit", // of which the lowest 64 bits are a mark
		"5b6401000000005700":       "0 to 7: 8, exit; 8 to 8: exit",
		"5b60ff56":                 "0 to 3: exit",
		"60085b5b5b57605b5b":       "0 to 0: 2; 2 to 2: 3; 3 to 3: 4; 4 to 5: 2, 3, 4, 6, 8, exit; 6 to 6: 8; 8 to 8: exit",
	} {
		b, err := hex.DecodeString(c)
		if err != nil {
			t.Fatal(err)
		}
		if g := text(flow.Blocks(b)); g != want {
			t.Errorf("Blocks(%s) = %s, want %s", c, g, want)
		}
	}
}

func TestP111Blocks(t *testing.T) {
	for _, c := range slices.Concat(short(5), samples()) {
		if g, want := flow.Blocks(c), blocks(c); !alike(g, want) {
			t.Errorf("Blocks(%x) = %s, want %s", c, text(g), text(want))
		}
	}
}

func TestP111At(t *testing.T) {
	for _, c := range samples() {
		l, h := list(c), homes(c)
		want := map[int]int{}
		for i, x := range l {
			want[x.at] = h[i]
		}
		for _, place := range places(c) {
			first, is := want[place]
			if g, ok := flow.At(c, place); g != first || ok != is {
				t.Errorf("At(%x, %d) = %d, %v, want %d, %v", c, place, g, ok, first, is)
			}
		}
	}
}

func TestP111Fixed(t *testing.T) {
	for _, c := range samples() {
		l := list(c)
		want := map[int]api.Word{}
		for i, x := range l {
			if to, is := fixed(c, l, i); is {
				want[x.at] = to
			}
		}
		for _, place := range places(c) {
			to, is := want[place]
			if g, ok := flow.Fixed(c, place); g != to || ok != is {
				t.Errorf("Fixed(%x, %d) = %x, %v, want %x, %v", c, place, g, ok, to, is)
			}
		}
	}
}

func TestP111FixedOfCases(t *testing.T) {
	for _, x := range []struct {
		code  string
		place int
		want  api.Word
		is    bool
	}{
		{example, 2, api.Word{4}, true},
		{example, 7, api.Word{1}, true}, // which is no mark
		{example, 0, api.Word{}, false},
		{example, 1, api.Word{}, false},
		{example, 3, api.Word{}, false},
		{example, 6, api.Word{}, false},
		{example, 9, api.Word{}, false},
		{"5f56", 1, api.Word{}, true},
		{"5f57", 1, api.Word{}, true},
		{"5e56", 1, api.Word{}, false},
		{"8056", 1, api.Word{}, false},
		{"56", 0, api.Word{}, false},
		{"6056", 1, api.Word{}, false}, // a byte of the PUSH
		{"605656", 2, api.Word{0x56}, true},
		{"60015b56", 3, api.Word{}, false},
		{"60018056", 3, api.Word{}, false},
		{"60016002015657", 5, api.Word{}, false},
		{"600156600257", 2, api.Word{1}, true},
		{"600156600257", 5, api.Word{2}, true},
		{"600156600201", 5, api.Word{}, false},
		{"7f" + strings.Repeat("ff", 32) + "56", 33, api.Word{math.MaxUint64, math.MaxUint64, math.MaxUint64, math.MaxUint64}, true},
		{"68010203040506070809" + "57", 10, api.Word{0x0203040506070809, 1}, true},
		{"", 0, api.Word{}, false},
	} {
		b, _ := hex.DecodeString(x.code)
		if g, is := flow.Fixed(b, x.place); g != x.want || is != x.is {
			t.Errorf("Fixed(%s, %d) = %x, %v", x.code, x.place, g, is)
		}
	}
}

func TestP112OfCases(t *testing.T) {
	const back = "5b600857005b00005b56" // 0 to 3: 4, 8; 4 to 4: exit; 5 to 6: exit; 7 to 7: exit; 8 to 9: 0, 5, 8, exit
	for _, x := range []struct {
		code  string
		first int
		want  []told
	}{
		{example, 0, []told{{0, 0}, {4, 1}, {8, 2}}},
		{example, 3, []told{{3, 0}}},
		{example, 4, []told{{4, 0}, {8, 1}}},
		{example, 8, []told{{8, 0}}},
		{example, 1, nil},
		{example, 2, nil}, // within a block, not its first place
		{example, 5, nil},
		{example, 9, nil},
		{example, -1, nil},
		{"", 0, nil},
		{"00", 0, []told{{0, 0}}},
		{"5b5f56", 0, []told{{0, 0}}},                           // back to itself
		{"5b5b5b5b", 0, []told{{0, 0}, {1, 1}, {2, 2}, {3, 3}}}, // one behind the other
		{"5b5b5b5b", 2, []told{{2, 0}, {3, 1}}},
		{"565b5b5b", 0, []told{{0, 0}, {1, 1}, {2, 1}, {3, 1}}}, // all marks at once
		{"600957600756005b005b00", 0, []told{{0, 0}, {3, 1}, {9, 1}, {7, 2}}}, // those of fewer times first
		{back, 0, []told{{0, 0}, {4, 1}, {8, 1}, {5, 2}}},
		{back, 8, []told{{8, 0}, {0, 1}, {5, 1}, {4, 2}}},
		{back, 4, []told{{4, 0}}},
		{back, 7, []told{{7, 0}}}, // to which nobody comes
		{"5b565b565b00", 2, []told{{2, 0}, {0, 1}, {4, 1}}},
	} {
		b, err := hex.DecodeString(x.code)
		if err != nil {
			t.Fatal(err)
		}
		if g := walk(b, x.first); !slices.Equal(g, x.want) {
			t.Errorf("Walk(%s, %d) tells %v, want %v", x.code, x.first, g, x.want)
		}
		var want []int
		for _, w := range x.want {
			want = append(want, w.place)
		}
		slices.Sort(want)
		if g := flow.Reach(b, x.first); !slices.Equal(g, want) {
			t.Errorf("Reach(%s, %d) = %v, want %v", x.code, x.first, g, want)
		}
	}
}

func TestP112ReachAndWalk(t *testing.T) {
	for _, c := range samples() {
		l := blocks(c)
		for _, first := range places(c) {
			want := rightWalk(times(l, first))
			if g := walk(c, first); !slices.Equal(g, want) {
				t.Errorf("Walk(%x, %d) tells %v, want %v", c, first, g, want)
			}
			var reached []int
			for _, x := range want {
				reached = append(reached, x.place)
			}
			slices.Sort(reached)
			if g := flow.Reach(c, first); !slices.Equal(g, reached) {
				t.Errorf("Reach(%x, %d) = %v, want %v", c, first, g, reached)
			}
		}
	}
}

func TestP112WalkLeftAndAgain(t *testing.T) {
	c, _ := hex.DecodeString("5b600857005b00005b56")
	for _, first := range []int{0, 4, 8, 1, -1} {
		each, want := flow.Walk(c, first), rightWalk(times(blocks(c), first))
		for stop := 1; stop <= len(want); stop++ {
			var got []told
			each(func(place, n int) bool { got = append(got, told{place, n}); return len(got) < stop })
			if !slices.Equal(got, want[:stop]) {
				t.Errorf("left at %d, it has told %v", stop, got)
			}
		}
		n, pairs := 0, 0
		for place, times := range each {
			if (told{place, times}) != want[n] {
				t.Errorf("gone over again, it tells %d, %d times away", place, times)
			}
			n++
			for range each {
				pairs++
			}
		}
		if n != len(want) || pairs != n*n {
			t.Errorf("gone over within itself, it tells %d and %d", n, pairs)
		}
	}
}

func TestP112WalkAsItWas(t *testing.T) {
	c, _ := hex.DecodeString("5b600857005b00005b56")
	want := rightWalk(times(blocks(c), 0))
	each := flow.Walk(c, 0)
	c[2], c[5] = 5, 0
	var got []told
	for place, n := range each {
		got = append(got, told{place, n})
		clear(c)
	}
	if !slices.Equal(got, want) {
		t.Errorf("changed with the code: %v, want %v", got, want)
	}
}

// TestP113 looks at what follows, by the package's own answers: each op is in one block, whose places it tells; ways lead to blocks; what is reached from there on is reached.
func TestP113(t *testing.T) {
	for _, c := range samples() {
		l := flow.Blocks(c)
		first := map[int]bool{}
		for _, b := range l {
			first[b.First] = true
		}
		for _, x := range list(c) {
			in := 0
			for _, b := range l {
				if b.First <= x.at && x.at <= b.Last {
					in++
					if at, is := flow.At(c, x.at); at != b.First || !is {
						t.Errorf("At(%x, %d) = %d, %v, not the block from %d", c, x.at, at, is, b.First)
					}
				}
			}
			if in != 1 {
				t.Errorf("the op at %d of %x is in %d blocks", x.at, c, in)
			}
		}
		for _, b := range l {
			for _, to := range b.Next {
				if !first[to] {
					t.Errorf("from %d of %x one may go to %d, which is no block", b.First, c, to)
				}
			}
			all := flow.Reach(c, b.First)
			for _, to := range all {
				for _, on := range flow.Reach(c, to) {
					if _, is := slices.BinarySearch(all, on); !is {
						t.Errorf("of %x %d is reached from %d, but not from %d", c, on, to, b.First)
					}
				}
			}
		}
	}
}

// TestLong looks at code as long as an account's may be: of jumps to all marks, of jumps that are fixed, of nothing but marks.
func TestLong(t *testing.T) {
	loose := bytes.Repeat([]byte{0x57, 0x5b}, api.MaxCode/2)
	if g := walk(loose, 0); len(g) != api.MaxCode/2+1 || g[1] != (told{1, 1}) || g[len(g)-1].times != 1 {
		t.Errorf("of jumps to all marks it tells %d", len(g))
	}
	if g := flow.Reach(loose, 1); len(g) != api.MaxCode/2 || g[0] != 1 {
		t.Errorf("of jumps to all marks it reaches %d", len(g))
	}
	var on []byte
	for len(on)+5 <= api.MaxCode {
		next := len(on) + 5
		on = append(on, 0x5b, 0x61, byte(next>>8), byte(next), 0x57)
	}
	l := flow.Blocks(on)
	for i, b := range l {
		if want := (api.Block{First: 5 * i, Last: 5*i + 4, Next: []int{5*i + 5}}); i+1 < len(l) && !alike([]api.Block{b}, []api.Block{want}) {
			t.Fatalf("the block %v is not %v", b, want)
		}
	}
	if last := l[len(l)-1]; len(l) != api.MaxCode/5 || !last.Exit || len(last.Next) != 0 {
		t.Errorf("of %d blocks the last one is %v", len(l), last)
	}
	marks := bytes.Repeat([]byte{0x5b}, api.MaxCode)
	if g := walk(marks, 0); len(g) != api.MaxCode || g[len(g)-1] != (told{api.MaxCode - 1, api.MaxCode - 1}) {
		t.Errorf("of nothing but marks it tells %d", len(g))
	}
	if first, is := flow.At(marks, api.MaxCode-1); first != api.MaxCode-1 || !is {
		t.Errorf("the last mark is in the block from %d", first)
	}
}

func TestKeepsWhatIsHandedIn(t *testing.T) {
	for _, c := range samples() {
		room := append(slices.Clone(c), bytes.Repeat([]byte{0x77}, 40)...)
		was := slices.Clone(room)
		b := room[:len(c)]
		flow.Blocks(b)
		for place := range len(b) + 1 {
			flow.At(b, place)
			flow.Fixed(b, place)
			flow.Reach(b, place)
			for range flow.Walk(b, place) {
			}
		}
		if !bytes.Equal(room, was) {
			t.Errorf("what was handed in has become %x, it was %x", room, was)
		}
	}
}

func TestNewMemory(t *testing.T) {
	c, _ := hex.DecodeString("57575b5b56005b")
	want := text(blocks(c))
	l, again := flow.Blocks(c), flow.Blocks(c)
	for i, b := range l {
		next := b.Next[:cap(b.Next)]
		for k := range next {
			next[k] = -7
		}
		l[i].Next = nil
		if g, right := text(l[i+1:]), text(again[i+1:]); g != right {
			t.Fatalf("changed with the block at %d: %s, want %s", b.First, g, right)
		}
	}
	clear(l[:cap(l)])
	reach, other := flow.Reach(c, 0), flow.Reach(c, 0)
	clear(reach[:cap(reach)])
	if text(again) != want || text(flow.Blocks(c)) != want || !slices.Equal(other, []int{0, 1, 2, 3, 6}) {
		t.Errorf("changed with other answers: %s, %v", text(again), other)
	}
}
