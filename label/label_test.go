package label_test

import (
	"slices"
	"strconv"
	"strings"
	"testing"

	"excise/api"
	"excise/label"
)

// samples are labels of few, of most and of single principals, and such without a pattern, the same ones each time.
func samples() []api.Label {
	l := []api.Label{api.Bottom, api.Top, 1, 2, 3, 4, 5, 6, 7, 1 << 9, 1 << 10, 1<<63 | 1, api.Top >> 1, api.Top &^ 1, 1<<32 - 1, api.Top &^ (1<<32 - 1)}
	for _, k := range []int{8, 31, 32, 33, 62, 63} {
		l = append(l, 1<<k, api.Top&^(1<<k))
	}
	n := uint64(0x9e3779b97f4a7c15)
	for range 12 {
		n ^= n << 13
		n ^= n >> 7
		n ^= n << 17
		l = append(l, api.Label(n), api.Label(n&(n>>9)&(n>>21)))
	}
	return l
}

// has tells whether a principal is in a label.
func has(a api.Label, k int) bool { return uint64(a)/(uint64(1)<<k)%2 == 1 }

// within tells whether each principal of the first is in the second, asked one by one.
func within(a, b api.Label) bool {
	for k := range 64 {
		if has(a, k) && !has(b, k) {
			return false
		}
	}
	return true
}

// those is the label of all principals that fit.
func those(fit func(k int) bool) api.Label {
	var a api.Label
	for k := range 64 {
		if fit(k) {
			a += 1 << k
		}
	}
	return a
}

// principals are a label's, rising.
func principals(a api.Label) []int {
	var l []int
	for k := range 64 {
		if has(a, k) {
			l = append(l, k)
		}
	}
	return l
}

// text is a label's text, made without the package that is tested.
func text(a api.Label) string {
	var l []string
	for _, k := range principals(a) {
		l = append(l, strconv.Itoa(k))
	}
	if len(l) == 0 {
		return "-"
	}
	return strings.Join(l, ",")
}

func TestLimits(t *testing.T) {
	if api.Bottom != 0 || api.Top != 0xffffffffffffffff || api.ErrLabel != 180 {
		t.Errorf("Bottom %d, Top %d, ErrLabel %d", api.Bottom, api.Top, api.ErrLabel)
	}
}

func TestP81JoinAndMeetOfFew(t *testing.T) {
	for _, c := range []struct {
		l          []api.Label
		join, meet api.Label
	}{
		{nil, api.Bottom, api.Top},
		{[]api.Label{}, api.Bottom, api.Top},
		{[]api.Label{0}, 0, 0},
		{[]api.Label{5}, 5, 5},
		{[]api.Label{api.Top}, api.Top, api.Top},
		{[]api.Label{1, 6}, 7, 0},
		{[]api.Label{3, 6}, 7, 2},
		{[]api.Label{6, 3}, 7, 2},
		{[]api.Label{api.Bottom, api.Top}, api.Top, api.Bottom},
		{[]api.Label{7, 11, 13}, 15, 1},
		{[]api.Label{1 << 63, 1}, 1<<63 | 1, 0},
		{[]api.Label{1 << 63, 1 << 63, 1<<63 | 8}, 1<<63 | 8, 1 << 63},
	} {
		if j, m := label.Join(c.l...), label.Meet(c.l...); j != c.join || m != c.meet {
			t.Errorf("of %v: Join %d, want %d; Meet %d, want %d", c.l, j, c.join, m, c.meet)
		}
	}
}

func TestP81JoinAndMeetOfSamples(t *testing.T) {
	l := samples()
	for _, a := range l {
		for _, b := range l {
			for _, c := range l {
				if g, w := label.Join(a, b, c), those(func(k int) bool { return has(a, k) || has(b, k) || has(c, k) }); g != w {
					t.Fatalf("Join(%x, %x, %x) = %x, want %x", a, b, c, g, w)
				}
				if g, w := label.Meet(a, b, c), those(func(k int) bool { return has(a, k) && has(b, k) && has(c, k) }); g != w {
					t.Fatalf("Meet(%x, %x, %x) = %x, want %x", a, b, c, g, w)
				}
			}
		}
	}
}

func TestP81JoinAndMeetOfMany(t *testing.T) {
	var ones, others []api.Label
	for k := range 64 {
		ones = append(ones, 1<<k)
		others = append(others, api.Top&^(1<<k))
		if g, w := label.Join(ones...), those(func(i int) bool { return i <= k }); g != w {
			t.Errorf("Join of %d ones = %x, want %x", k+1, g, w)
		}
		if g, w := label.Meet(others...), those(func(i int) bool { return i > k }); g != w {
			t.Errorf("Meet of all but one, %d of them = %x, want %x", k+1, g, w)
		}
	}
	l := make([]api.Label, 1<<20)
	l[len(l)-1] = 9
	if j, m := label.Join(l...), label.Meet(l...); j != 9 || m != 0 {
		t.Errorf("of many: Join %d, Meet %d", j, m)
	}
}

func TestP81Below(t *testing.T) {
	for _, c := range []struct {
		a, b api.Label
		want bool
	}{
		{2, 3, true}, {4, 3, false}, {3, 2, false}, {3, 3, true}, {1, 2, false}, {2, 1, false},
		{api.Bottom, api.Bottom, true}, {api.Bottom, api.Top, true}, {api.Top, api.Bottom, false}, {api.Top, api.Top, true},
		{1 << 63, api.Top >> 1, false}, {1 << 63, api.Top, true}, {1, 1 << 63, false}, {0, 1, true}, {1, 0, false},
	} {
		if g := label.Below(c.a, c.b); g != c.want {
			t.Errorf("Below(%d, %d) = %v", c.a, c.b, g)
		}
	}
	for _, a := range samples() {
		for _, b := range samples() {
			if g, w := label.Below(a, b), within(a, b); g != w {
				t.Errorf("Below(%x, %x) = %v", a, b, g)
			}
		}
	}
}

func TestP81Between(t *testing.T) {
	for _, c := range []struct {
		a, b api.Label
		l    []api.Label
		want bool
	}{
		{1, 7, []api.Label{3}, true},
		{1, 7, []api.Label{1}, true},
		{1, 7, []api.Label{7}, true},
		{1, 7, []api.Label{3, 5, 1, 7}, true},
		{1, 7, []api.Label{2}, false},
		{1, 7, []api.Label{0}, false},
		{1, 7, []api.Label{9}, false},
		{1, 7, []api.Label{8}, false},
		{1, 7, []api.Label{3, 2}, false},
		{1, 7, []api.Label{2, 3}, false},
		{1, 7, []api.Label{3, 9, 5}, false},
		{5, 5, []api.Label{5}, true},
		{5, 5, []api.Label{5, 5, 5}, true},
		{5, 5, []api.Label{4}, false},
		{7, 1, []api.Label{3}, false},
		{api.Bottom, api.Top, []api.Label{0, 9, api.Top}, true},
		{api.Bottom, api.Bottom, []api.Label{0}, true},
		{api.Bottom, api.Bottom, []api.Label{1 << 63}, false},
		{api.Top, api.Top, []api.Label{api.Top}, true},
		{api.Top, api.Top, []api.Label{api.Top >> 1}, false},
	} {
		if g := label.Between(c.a, c.b, c.l...); g != c.want {
			t.Errorf("Between(%d, %d, %v) = %v", c.a, c.b, c.l, g)
		}
	}
}

// TestP81BetweenOfNone has no other label, so none lies outside, whatever the two are.
func TestP81BetweenOfNone(t *testing.T) {
	for _, a := range samples() {
		for _, b := range samples() {
			if !label.Between(a, b) || !label.Between(a, b, []api.Label{}...) {
				t.Errorf("Between(%x, %x) is false", a, b)
			}
		}
	}
}

func TestP81BetweenOfSamples(t *testing.T) {
	l := samples()
	for i, a := range l {
		for _, b := range l {
			for j, c := range l {
				d := l[(i*5+j*3+1)%len(l)]
				one := within(a, c) && within(c, b)
				if g := label.Between(a, b, c); g != one {
					t.Fatalf("Between(%x, %x, %x) = %v", a, b, c, g)
				}
				if g, w := label.Between(a, b, c, d), one && within(a, d) && within(d, b); g != w {
					t.Fatalf("Between(%x, %x, %x, %x) = %v", a, b, c, d, g)
				}
			}
		}
	}
}

func TestP81KeepsWhatIsHandedIn(t *testing.T) {
	all := []api.Label{3, 6, 12, 77, 78}
	was := slices.Clone(all)
	label.Join(all[:3]...)
	label.Meet(all[:3]...)
	label.Between(1, 15, all[:3]...)
	if !slices.Equal(all, was) {
		t.Errorf("labels that were handed in have changed: %v", all)
	}
}

func TestP82Text(t *testing.T) {
	for a, w := range map[api.Label]string{0: "-", 1: "0", 2: "1", 5: "0,2", 1 << 9: "9", 1 << 10: "10", 1<<9 | 1<<10: "9,10", 1 << 63: "63", 1<<63 | 1: "0,63", 1<<63 | 1<<62: "62,63", 1<<11 | 1<<2 | 1<<1: "1,2,11"} {
		if g := label.Text(a); g != w {
			t.Errorf("Text(%d) = %s, want %s", a, g, w)
		}
	}
	for _, a := range samples() {
		if g, w := label.Text(a), text(a); g != w {
			t.Errorf("Text(%x) = %s, want %s", a, g, w)
		}
	}
}

func TestP82Parse(t *testing.T) {
	for s, w := range map[string]api.Label{"-": 0, "0": 1, "1": 2, "0,2": 5, "9": 1 << 9, "9,10": 1<<9 | 1<<10, "10": 1 << 10, "63": 1 << 63, "0,63": 1<<63 | 1, "62,63": 3 << 62} {
		if g, errno := label.Parse(s); g != w || errno != api.OK {
			t.Errorf("Parse(%s) = %d, %v, want %d", s, g, errno, w)
		}
	}
	for k := range 64 {
		if g, errno := label.Parse(strconv.Itoa(k)); g != 1<<k || errno != api.OK {
			t.Errorf("Parse(%d) = %d, %v", k, g, errno)
		}
	}
	for _, a := range samples() {
		if g, errno := label.Parse(text(a)); g != a || errno != api.OK {
			t.Errorf("Parse(%s) = %x, %v, want %x", text(a), g, errno, a)
		}
	}
}

// refused asks for a text that is none.
func refused(t *testing.T, s string) {
	t.Helper()
	if g, errno := label.Parse(s); g != api.Bottom || errno != api.ErrLabel {
		t.Errorf("Parse(%.60q) = %d, %v", s, g, errno)
	}
}

func TestP82ParseRefused(t *testing.T) {
	for _, s := range []string{
		"", " ", ",", "--", "-,0", "0,-", "-0", "-1", "+1", "0-", "- ", " -",
		"2,0", "0,0", "1,1", "63,63", "0,2,1", "0,2,2", "10,9", "63,62",
		"64", "65", "99", "100", "640", "0,64", "64,65", "128", "6400", "1000000",
		"00", "01", "000", "063", "0,00", "0,01", "00,1", "1,02", "0,063", "0000000000000000000001",
		"0,", ",0", "0,,1", ",,", "0,1,", "63,", ",63", ",-", "-,",
		"0 ,1", "0, 1", " 0", "0 ", "0;1", "0.1", "0\n", "\n", "0\x00", "\x00", "0\t1", "0'1", "0_1", "1_0",
		"a", "0x1", "1e1", "/", ":", "0:", "1/", "0,a", "a,0",
		"٣", "1٣", "３", "0，1", "−", "–", "é", "\xff", "0\xff", "0,\xc3", "\u0130", "\u0131", "\u012c", "0\u012c1", "\u012d", "\U00010030", "\U00010031,5",
		"18446744073709551616", "18446744073709551617", "4294967296", "4294967297", "340282366920938463463374607431768211456", "9223372036854775808", "-9223372036854775808",
	} {
		refused(t, s)
	}
	for _, a := range samples() {
		for _, more := range []string{",", " ", "-", "x", ",64", "\x00", ",0", "٣"} {
			refused(t, text(a)+more)
		}
		for _, more := range []string{",", " ", "-", "x", "64,", "\x00", "63,"} {
			refused(t, more+text(a))
		}
	}
}

func TestP82ParseRefusedOfLong(t *testing.T) {
	for _, s := range []string{"0", "1", "9", ",", "0,", "1,", "-", "00", "63,", " ", "\xff", "٣"} {
		refused(t, strings.Repeat(s, 1<<20))
	}
	refused(t, text(api.Top)+strings.Repeat(",63", 1000))
	refused(t, strings.Repeat("0", 1<<20)+"1")
	refused(t, strings.Repeat("0,", 1<<20)+"1")
}

// TestP82ParseOfAllShort looks at all texts of up to five of the runes that texts have, and a few besides.
func TestP82ParseOfAllShort(t *testing.T) {
	runes := []string{"0", "1", "3", "6", "9", ",", "-", " "}
	l := []string{""}
	for range 5 {
		var longer []string
		for _, s := range l {
			for _, r := range runes {
				longer = append(longer, s+r)
			}
		}
		for _, s := range longer {
			a, right := sought(s)
			if g, errno := label.Parse(s); g != a || (errno == api.OK) != right || !right && errno != api.ErrLabel {
				t.Errorf("Parse(%q) = %d, %v, want %d", s, g, errno, a)
			}
		}
		l = longer
	}
}

// sought is the label of a text, read by the library.
func sought(s string) (api.Label, bool) {
	if s == "-" {
		return 0, true
	}
	var a api.Label
	last := -1
	for _, p := range strings.Split(s, ",") {
		k, err := strconv.Atoi(p)
		if err != nil || k <= last || k > 63 || strconv.Itoa(k) != p {
			return 0, false
		}
		a, last = a+1<<k, k
	}
	return a, true
}

func TestP82Members(t *testing.T) {
	for _, c := range []struct {
		a    api.Label
		want []int
	}{{0, nil}, {1, []int{0}}, {5, []int{0, 2}}, {1 << 63, []int{63}}, {1<<63 | 6, []int{1, 2, 63}}} {
		if g := slices.Collect(label.Members(c.a)); !slices.Equal(g, c.want) {
			t.Errorf("Members(%d) = %v, want %v", c.a, g, c.want)
		}
	}
	for _, a := range samples() {
		if g, w := slices.Collect(label.Members(a)), principals(a); !slices.Equal(g, w) {
			t.Errorf("Members(%x) = %v, want %v", a, g, w)
		}
	}
}

func TestP82MembersLeftAndAgain(t *testing.T) {
	for _, a := range []api.Label{api.Top, 1<<63 | 1<<40 | 1<<7 | 3, 1 << 63, 1} {
		each, want := label.Members(a), principals(a)
		for stop := 1; stop <= len(want); stop++ {
			var got []int
			each(func(k int) bool { got = append(got, k); return len(got) < stop })
			if !slices.Equal(got, want[:stop]) {
				t.Errorf("left at %d, it has told %v", stop, got)
			}
		}
		if g := slices.Collect(each); !slices.Equal(g, want) {
			t.Errorf("gone over again, it tells %v", g)
		}
		pairs := 0
		for range each {
			for range each {
				pairs++
			}
		}
		if pairs != len(want)*len(want) {
			t.Errorf("gone over within itself, it tells %d", pairs)
		}
	}
}

func TestP83BelowIsAnOrder(t *testing.T) {
	l := samples()
	for _, a := range l {
		if !label.Below(a, a) || !label.Below(api.Bottom, a) || !label.Below(a, api.Top) {
			t.Errorf("%x is not below itself, above bottom, below the top", a)
		}
		for _, b := range l {
			if label.Below(a, b) && label.Below(b, a) && a != b {
				t.Errorf("%x and %x are below each other", a, b)
			}
			for _, c := range l {
				if label.Below(a, b) && label.Below(b, c) && !label.Below(a, c) {
					t.Fatalf("%x is below %x, that below %x", a, b, c)
				}
			}
		}
	}
}

func TestP83JoinAndMeetAreBounds(t *testing.T) {
	l := samples()
	for _, a := range l {
		for _, b := range l {
			join, meet := label.Join(a, b), label.Meet(a, b)
			if !label.Below(a, join) || !label.Below(b, join) || !label.Below(meet, a) || !label.Below(meet, b) {
				t.Fatalf("of %x and %x: Join %x, Meet %x", a, b, join, meet)
			}
			for _, c := range l {
				if label.Below(a, c) && label.Below(b, c) && !label.Below(join, c) {
					t.Fatalf("%x is above %x and %x, not above their join %x", c, a, b, join)
				}
				if label.Below(c, a) && label.Below(c, b) && !label.Below(c, meet) {
					t.Fatalf("%x is below %x and %x, not below their meet %x", c, a, b, meet)
				}
			}
		}
	}
}

func TestP83UnlikeTexts(t *testing.T) {
	seen := map[string]api.Label{}
	look := func(a api.Label) {
		s := label.Text(a)
		if b, ok := seen[s]; ok && a != b {
			t.Errorf("%x and %x have the text %s", a, b, s)
		}
		seen[s] = a
		if b, errno := label.Parse(s); a != b || errno != api.OK {
			t.Errorf("Parse(Text(%x)) = %x, %v", a, b, errno)
		}
	}
	for a := range api.Label(1 << 13) {
		look(a)
		look(a << 51)
		look(a<<51 | a>>3)
	}
	for _, a := range samples() {
		look(a)
	}
}
