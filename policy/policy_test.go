package policy_test

import (
	"encoding/hex"
	"fmt"
	"math"
	"slices"
	"strconv"
	"strings"
	"testing"

	"excise/api"
	"excise/policy"
)

const most = math.MaxUint32

// at is the address whose last bytes are a number.
func at(n int) api.Address {
	return api.Address{16: byte(n >> 24), 17: byte(n >> 16), 18: byte(n >> 8), 19: byte(n)}
}

// ends is an address of a first and a last byte.
func ends(first, last byte) api.Address { return api.Address{0: first, 19: last} }

// may is a clearance.
func may(a api.Address, l api.Label) api.Clear { return api.Clear{Address: a, Label: l} }

// lets is a release.
func lets(a api.Address, entry uint32, target api.Label) api.Release {
	return api.Release{Address: a, Entry: entry, Target: target}
}

// clears are clearances of the addresses from one on, all of one label.
func clears(from, many int, l api.Label) []api.Clear {
	var c []api.Clear
	for i := range many {
		c = append(c, may(at(from+i), l))
	}
	return c
}

// releases are those of one address and the entries from one on, all to one target.
func releases(a api.Address, from uint32, many int, l api.Label) []api.Release {
	var r []api.Release
	for i := range many {
		r = append(r, lets(a, from+uint32(i), l))
	}
	return r
}

// full is the policy whose text is the longest, most lines having the longest words.
func full() api.Policy {
	return api.Policy{Default: api.Top, Clears: clears(1, 64, api.Top), Releases: releases(at(9), most-63, 64, api.Top)}
}

// noise tells numbers without a pattern, the same ones each time.
func noise() func() int {
	n := uint64(0x9e3779b97f4a7c15)
	return func() int {
		n ^= n << 13
		n ^= n >> 7
		n ^= n << 17
		return int(n >> 33)
	}
}

// grown is a policy without a pattern, that may be.
func grown(next func() int) api.Policy {
	p := api.Policy{Default: api.Label(next() & next())}
	here := 0
	for range next() % 6 {
		here += 1 + next()%4
		p.Clears = append(p.Clears, may(at(here), api.Label(next()^next()<<33)))
	}
	here = 0
	for range next() % 6 {
		here += next() % 4
		a, entry := at(here), uint32(next()%1000)
		if k := len(p.Releases); k > 0 && p.Releases[k-1].Address == a {
			entry += p.Releases[k-1].Entry + 1
		}
		bound := p.Default
		for _, c := range p.Clears {
			if c.Address == a {
				bound = c.Label
			}
		}
		p.Releases = append(p.Releases, lets(a, entry, bound&api.Label(next()|next()<<32)))
	}
	return p
}

// samples are policies that may be.
func samples() []api.Policy {
	a := at(1)
	l := []api.Policy{
		{}, {Default: 1}, {Default: api.Top}, {Default: 1<<63 | 5},
		{Clears: []api.Clear{may(a, 0)}}, {Clears: []api.Clear{may(a, 3)}}, {Default: 3, Clears: []api.Clear{may(a, 3)}},
		{Clears: []api.Clear{may(api.Address{}, api.Top), may(ends(0xff, 0xff), 1<<63)}},
		{Clears: []api.Clear{may(a, 1), may(at(2), 1)}}, {Clears: []api.Clear{may(at(255), 1), may(at(256), 1), may(ends(1, 0), 1)}},
		{Releases: []api.Release{lets(a, 0, 0)}}, {Releases: []api.Release{lets(a, most, 0)}}, {Releases: []api.Release{lets(a, 7, 0), lets(a, 8, 0), lets(at(2), 0, 0)}},
		{Default: 6, Releases: []api.Release{lets(a, 7, 2)}}, {Default: 6, Releases: []api.Release{lets(a, 9, 2), lets(a, 10, 4), lets(a, 100, 6), lets(at(2), 9, 0)}},
		{Clears: []api.Clear{may(a, 3)}, Releases: []api.Release{lets(a, 7, 2)}}, {Default: 4, Clears: []api.Clear{may(a, 3)}, Releases: []api.Release{lets(a, 7, 3), lets(at(2), 7, 4)}},
		{Clears: clears(1, 64, 1)}, {Releases: releases(a, 0, 64, 0)}, {Default: 5, Clears: clears(3, 63, 9), Releases: releases(a, 0, 63, 4)}, full(),
		{Default: 1, Clears: []api.Clear{}, Releases: []api.Release{}},
	}
	next := noise()
	for range 200 {
		l = append(l, grown(next))
	}
	return l
}

// wrong are policies that may not be, with their errors.
func wrong() []struct {
	p    api.Policy
	want api.Errno
} {
	a, b, c := at(1), at(2), at(3)
	return []struct {
		p    api.Policy
		want api.Errno
	}{
		{api.Policy{Clears: clears(1, 65, 0)}, api.ErrLong},
		{api.Policy{Clears: clears(1, 1000, 0)}, api.ErrLong},
		{api.Policy{Releases: releases(a, 0, 65, 0)}, api.ErrLong},
		{api.Policy{Clears: clears(1, 65, 0), Releases: releases(a, 0, 65, 0)}, api.ErrLong},
		{api.Policy{Clears: make([]api.Clear, 65)}, api.ErrLong},                                                                // twice, too
		{api.Policy{Releases: make([]api.Release, 65)}, api.ErrLong},                                                            // twice, too
		{api.Policy{Releases: releases(a, 0, 65, 1)}, api.ErrLong},                                                              // not right, too
		{api.Policy{Clears: []api.Clear{may(b, 0), may(a, 0)}, Releases: releases(a, 0, 65, 0)}, api.ErrLong},                   // out of order, too
		{api.Policy{Clears: clears(1, 65, 0), Releases: []api.Release{lets(a, 1, 0), lets(a, 0, 0)}}, api.ErrLong},              // out of order, too
		{api.Policy{Clears: []api.Clear{may(a, 0), may(a, 0)}}, api.ErrArg},                                                     // twice
		{api.Policy{Clears: []api.Clear{may(a, 0), may(a, 1)}}, api.ErrArg},                                                     // twice, unlike
		{api.Policy{Clears: []api.Clear{may(b, 0), may(a, 0)}}, api.ErrArg},                                                     // out of order
		{api.Policy{Clears: []api.Clear{may(a, 0), may(c, 0), may(b, 0)}}, api.ErrArg},                                          // out of order at last
		{api.Policy{Clears: []api.Clear{may(a, 0), may(b, 0), may(a, 0)}}, api.ErrArg},                                          // twice, apart
		{api.Policy{Clears: []api.Clear{may(ends(1, 0), 0), may(ends(0, 1), 0)}}, api.ErrArg},                                   // the first bytes count most
		{api.Policy{Clears: []api.Clear{may(ends(0x80, 0), 0), may(ends(0x7f, 0), 0)}}, api.ErrArg},                             // bytes have no sign
		{api.Policy{Clears: make([]api.Clear, 64)}, api.ErrArg},                                                                 // twice, as many as may be
		{api.Policy{Releases: []api.Release{lets(a, 7, 0), lets(a, 7, 0)}}, api.ErrArg},                                         // twice
		{api.Policy{Default: 1, Releases: []api.Release{lets(a, 7, 0), lets(a, 7, 1)}}, api.ErrArg},                             // twice, unlike
		{api.Policy{Releases: []api.Release{lets(a, 8, 0), lets(a, 7, 0)}}, api.ErrArg},                                         // entries out of order
		{api.Policy{Releases: []api.Release{lets(a, most, 0), lets(a, 0, 0)}}, api.ErrArg},                                      // entries have no sign
		{api.Policy{Releases: []api.Release{lets(b, 7, 0), lets(a, 8, 0)}}, api.ErrArg},                                         // addresses out of order
		{api.Policy{Releases: []api.Release{lets(a, 7, 0), lets(b, 7, 0), lets(a, 8, 0)}}, api.ErrArg},                          // addresses out of order at last
		{api.Policy{Releases: []api.Release{lets(b, 0, 1)}}, api.ErrArg},                                                        // above bottom
		{api.Policy{Default: 2, Releases: []api.Release{lets(b, 0, 3)}}, api.ErrArg},                                            // above the default
		{api.Policy{Default: 2, Releases: []api.Release{lets(b, 0, 4)}}, api.ErrArg},                                            // beside the default
		{api.Policy{Default: 3, Clears: []api.Clear{may(a, 1)}, Releases: []api.Release{lets(a, 0, 2)}}, api.ErrArg},            // below the default alone
		{api.Policy{Clears: []api.Clear{may(a, 1)}, Releases: []api.Release{lets(b, 0, 1)}}, api.ErrArg},                        // below another's alone
		{api.Policy{Clears: []api.Clear{may(a, 1)}, Releases: []api.Release{lets(a, 0, 1), lets(a, 1, 3)}}, api.ErrArg},         // the last one
		{api.Policy{Clears: []api.Clear{may(a, 1)}, Releases: []api.Release{lets(a, 0, 2), lets(a, 1, 1)}}, api.ErrArg},         // the first one
		{api.Policy{Default: api.Top >> 1, Releases: []api.Release{lets(a, 0, 1<<63)}}, api.ErrArg},                             // by the highest principal
		{api.Policy{Clears: clears(1, 64, 0), Releases: releases(at(64), 0, 64, 1)}, api.ErrArg},                                // as many as may be
		{api.Policy{Default: api.Top, Clears: []api.Clear{may(a, 0)}, Releases: []api.Release{lets(a, 0, 1)}}, api.ErrArg},      // a clearance of bottom counts, too
		{api.Policy{Default: 1, Clears: []api.Clear{may(a, 0), may(a, 1)}, Releases: []api.Release{lets(a, 0, 1)}}, api.ErrArg}, // twice and not right
	}
}

// same tells whether two policies are, looked at without the package that is tested.
func same(a, b api.Policy) bool {
	return fmt.Sprintf("%d %v %v", a.Default, a.Clears, a.Releases) == fmt.Sprintf("%d %v %v", b.Default, b.Clears, b.Releases)
}

// nothing tells whether a policy is a zero one.
func nothing(p api.Policy) bool { return p.Default == 0 && len(p.Clears) == 0 && len(p.Releases) == 0 }

// brief is a thing's text, its beginning alone.
func brief(x any) string { return fmt.Sprintf("%.200s", fmt.Sprint(x)) }

// clone is a policy of new memory.
func clone(p api.Policy) api.Policy {
	p.Clears, p.Releases = slices.Clone(p.Clears), slices.Clone(p.Releases)
	return p
}

// name is an address's text, made without the package that is tested.
func name(a api.Address) string { return "0x" + hex.EncodeToString(a[:]) }

// labelled is a label's text, made without the package that is tested.
func labelled(l api.Label) string {
	var s []string
	for k := range 64 {
		if l>>k&1 == 1 {
			s = append(s, strconv.Itoa(k))
		}
	}
	if s == nil {
		return "-"
	}
	return strings.Join(s, ",")
}

// lines are a policy's, made without the package that is tested.
func lines(p api.Policy) []string {
	l := []string{"default " + labelled(p.Default)}
	for _, c := range p.Clears {
		l = append(l, fmt.Sprintf("clear %s %s", name(c.Address), labelled(c.Label)))
	}
	for _, r := range p.Releases {
		l = append(l, fmt.Sprintf("release %s %d %s", name(r.Address), r.Entry, labelled(r.Target)))
	}
	return l
}

// text is a policy's text, made without the package that is tested.
func text(p api.Policy) string { return strings.Join(lines(p), "\n") + "\n" }

func TestLimits(t *testing.T) {
	if api.MaxRules != 64 || api.MaxText != 65536 || api.ErrPolicy != 190 {
		t.Errorf("MaxRules %d, MaxText %d, ErrPolicy %d", api.MaxRules, api.MaxText, api.ErrPolicy)
	}
}

func TestP91Check(t *testing.T) {
	for _, p := range samples() {
		if errno := policy.Check(p); errno != api.OK {
			t.Errorf("Check(%s) = %v", brief(p), errno)
		}
	}
	for _, c := range wrong() {
		if errno := policy.Check(c.p); errno != c.want {
			t.Errorf("Check(%s) = %v, want %v", brief(c.p), errno, c.want)
		}
	}
}

// TestP91CheckOfPairs looks at all lists of two rules of few addresses, entries and labels.
func TestP91CheckOfPairs(t *testing.T) {
	for n := range 3 * 3 * 4 * 4 {
		x, y, l, m := n%3, n/3%3, api.Label(n/9%4), api.Label(n/36)
		want := api.OK
		if x >= y {
			want = api.ErrArg
		}
		p := api.Policy{Clears: []api.Clear{may(at(x), l), may(at(y), m)}}
		if errno := policy.Check(p); errno != want {
			t.Errorf("Check(%v) = %v, want %v", p, errno, want)
		}
		for k := range 9 {
			e, f := uint32(k%3), uint32(k/3)
			want := api.OK
			if x > y || x == y && e >= f || l&^1 != 0 || m&^1 != 0 {
				want = api.ErrArg
			}
			p := api.Policy{Default: 1, Releases: []api.Release{lets(at(x), e, l), lets(at(y), f, m)}}
			if errno := policy.Check(p); errno != want {
				t.Errorf("Check(%v) = %v, want %v", p, errno, want)
			}
		}
	}
}

// TestP91CheckOfTargets looks at all releases of few labels, with and without a clearance.
func TestP91CheckOfTargets(t *testing.T) {
	for n := range 8 * 8 * 8 {
		d, c, target := api.Label(n%8), api.Label(n/8%8), api.Label(n/64)
		p := api.Policy{Default: d, Clears: []api.Clear{may(at(2), c)}, Releases: []api.Release{lets(at(2), 5, target)}}
		if errno := policy.Check(p); (errno == api.OK) != (target&^c == 0) {
			t.Errorf("Check(%v) = %v", p, errno)
		}
		p.Releases[0].Address = at(3)
		if errno := policy.Check(p); (errno == api.OK) != (target&^d == 0) {
			t.Errorf("Check(%v) = %v", p, errno)
		}
	}
}

func TestP91Clearance(t *testing.T) {
	a, b := at(1), at(2)
	for _, c := range []struct {
		p    api.Policy
		a    api.Address
		want api.Label
	}{
		{api.Policy{}, a, 0},
		{api.Policy{Default: 5}, a, 5},
		{api.Policy{Default: api.Top}, api.Address{}, api.Top},
		{api.Policy{Clears: []api.Clear{may(a, 3)}}, a, 3},
		{api.Policy{Clears: []api.Clear{may(a, 3)}}, b, 0},
		{api.Policy{Default: 5, Clears: []api.Clear{may(a, 3)}}, a, 3},
		{api.Policy{Default: 5, Clears: []api.Clear{may(a, 3)}}, b, 5},
		{api.Policy{Default: 5, Clears: []api.Clear{may(a, 0)}}, a, 0},
		{api.Policy{Default: 5, Clears: []api.Clear{may(api.Address{}, 2)}}, api.Address{}, 2},
		{api.Policy{Default: 5, Clears: []api.Clear{may(ends(1, 1), 2)}}, a, 5},
		{api.Policy{Default: 5, Clears: []api.Clear{may(ends(1, 1), 2)}}, ends(1, 1), 2},
		{api.Policy{Default: 5, Clears: clears(1, 64, 9)}, at(64), 9},
		{api.Policy{Default: 5, Clears: clears(1, 64, 9)}, at(65), 5},
		{api.Policy{Default: 5, Releases: []api.Release{lets(a, 1, 4)}}, a, 5},
		// not right, all of these
		{api.Policy{Default: 5, Clears: []api.Clear{may(a, 3), may(a, 4)}}, a, 3},
		{api.Policy{Default: 5, Clears: []api.Clear{may(b, 7), may(a, 3), may(b, 1), may(a, 4)}}, a, 3},
		{api.Policy{Default: 5, Clears: []api.Clear{may(b, 7), may(a, 3), may(b, 1), may(a, 4)}}, b, 7},
		{api.Policy{Default: 5, Clears: []api.Clear{may(b, 7), may(a, 3)}}, at(3), 5},
		{api.Policy{Default: 5, Clears: clears(1, 5000, 9)}, at(5000), 9},
		{api.Policy{Clears: []api.Clear{may(a, 3)}, Releases: []api.Release{lets(a, 1, 4)}}, a, 3},
	} {
		if g := policy.Clearance(c.p, c.a); g != c.want {
			t.Errorf("Clearance(%s, %x) = %d, want %d", brief(c.p), c.a, g, c.want)
		}
	}
}

func TestP91Target(t *testing.T) {
	a, b := at(1), at(2)
	for _, c := range []struct {
		r     []api.Release
		a     api.Address
		entry uint32
		want  api.Label
		there bool
	}{
		{nil, a, 7, 0, false},
		{[]api.Release{}, api.Address{}, 0, 0, false},
		{[]api.Release{{}}, api.Address{}, 0, 0, true},
		{[]api.Release{lets(a, 7, 2)}, a, 7, 2, true},
		{[]api.Release{lets(a, 7, 2)}, a, 8, 0, false},
		{[]api.Release{lets(a, 7, 2)}, a, 6, 0, false},
		{[]api.Release{lets(a, 7, 2)}, b, 7, 0, false},
		{[]api.Release{lets(a, 7, 0)}, a, 7, 0, true},
		{[]api.Release{lets(a, most, 4)}, a, most, 4, true},
		{[]api.Release{lets(a, 7, 2), lets(a, 8, 3), lets(b, 7, 4)}, a, 8, 3, true},
		{[]api.Release{lets(a, 7, 2), lets(a, 8, 3), lets(b, 7, 4)}, b, 7, 4, true},
		{[]api.Release{lets(a, 7, 2), lets(a, 8, 3), lets(b, 7, 4)}, b, 8, 0, false},
		{releases(a, 0, 64, 1), a, 63, 1, true},
		{releases(a, 0, 64, 1), a, 64, 0, false},
		// not right, all of these
		{[]api.Release{lets(a, 7, 2), lets(a, 7, 3)}, a, 7, 2, true},
		{[]api.Release{lets(b, 9, 6), lets(a, 8, 1), lets(a, 7, 2), lets(b, 9, 5), lets(a, 7, 3)}, a, 7, 2, true},
		{[]api.Release{lets(b, 9, 6), lets(a, 8, 1), lets(a, 7, 2), lets(b, 9, 5), lets(a, 7, 3)}, b, 9, 6, true},
		{[]api.Release{lets(a, 7, api.Top)}, a, 7, api.Top, true},
		{releases(a, 0, 5000, 1), a, 4999, 1, true},
	} {
		for _, p := range []api.Policy{{Releases: c.r}, {Default: api.Top, Clears: []api.Clear{may(c.a, 8), may(c.a, 9)}, Releases: c.r}} {
			if g, there := policy.Target(p, c.a, c.entry); g != c.want || there != c.there {
				t.Errorf("Target(%s, %x, %d) = %d, %v, want %d, %v", brief(p), c.a, c.entry, g, there, c.want, c.there)
			}
		}
	}
}

func TestP91Same(t *testing.T) {
	l := samples()
	for _, c := range wrong() {
		l = append(l, c.p)
	}
	for _, a := range l {
		for _, b := range l {
			if g, w := policy.Same(a, b), same(a, b); g != w {
				t.Errorf("Same(%s, %s) = %v", brief(a), brief(b), g)
			}
		}
		if !policy.Same(a, clone(a)) {
			t.Errorf("%s is not the same as itself", brief(a))
		}
	}
}

// TestP91SameButOne holds policies against such as are unlike in one thing alone.
func TestP91SameButOne(t *testing.T) {
	p := api.Policy{Default: 7, Clears: clears(1, 3, 5), Releases: releases(at(1), 4, 3, 1)}
	for i, change := range []func(*api.Policy){
		func(q *api.Policy) { q.Default = 3 },
		func(q *api.Policy) { q.Clears = q.Clears[:2] },
		func(q *api.Policy) { q.Clears = q.Clears[1:] },
		func(q *api.Policy) { q.Clears = nil },
		func(q *api.Policy) { q.Clears[2].Label = 4 },
		func(q *api.Policy) { q.Clears[0].Address = at(0) },
		func(q *api.Policy) { q.Clears[2].Address[0] = 1 },
		func(q *api.Policy) { q.Clears = append(q.Clears, api.Clear{}) },
		func(q *api.Policy) { slices.Reverse(q.Clears) },
		func(q *api.Policy) { q.Releases = q.Releases[:2] },
		func(q *api.Policy) { q.Releases = nil },
		func(q *api.Policy) { q.Releases[1].Entry = 9 },
		func(q *api.Policy) { q.Releases[2].Target = 0 },
		func(q *api.Policy) { q.Releases[2].Address = at(2) },
		func(q *api.Policy) { q.Releases = append(q.Releases, api.Release{}) },
		func(q *api.Policy) { slices.Reverse(q.Releases) },
	} {
		q := clone(p)
		change(&q)
		if policy.Same(p, q) || policy.Same(q, p) {
			t.Errorf("of change %d, Same(%v, %v)", i, p, q)
		}
	}
	empty := api.Policy{Default: 7, Clears: []api.Clear{}, Releases: []api.Release{}}
	if !policy.Same(empty, api.Policy{Default: 7}) || !policy.Same(api.Policy{Default: 7}, empty) {
		t.Error("nil and empty are unlike")
	}
}

func TestP92Text(t *testing.T) {
	a := "0x0000000000000000000000000000000000000001"
	for _, c := range []struct {
		p    api.Policy
		want string
	}{
		{api.Policy{}, "default -\n"},
		{api.Policy{Default: 5}, "default 0,2\n"},
		{api.Policy{Clears: []api.Clear{may(at(1), 3)}, Releases: []api.Release{lets(at(1), 7, 2)}}, "default -\nclear " + a + " 0,1\nrelease " + a + " 7 1\n"},
		{api.Policy{Default: 1, Clears: []api.Clear{may(at(1), 0), may(ends(0xab, 0xc0), 1<<63)}}, "default 0\nclear " + a + " -\nclear 0xab000000000000000000000000000000000000c0 63\n"},
		{api.Policy{Default: 1, Releases: []api.Release{lets(at(1), 0, 0), lets(at(1), 10, 1), lets(at(1), most, 0)}}, "default 0\nrelease " + a + " 0 -\nrelease " + a + " 10 0\nrelease " + a + " 4294967295 -\n"},
	} {
		if g, errno := policy.Text(c.p); g != c.want || errno != api.OK {
			t.Errorf("Text(%v) = %q, %v, want %q", c.p, g, errno, c.want)
		}
	}
	for _, p := range samples() {
		if g, errno := policy.Text(p); g != text(p) || errno != api.OK {
			t.Errorf("Text(%s) = %q, %v, want %q", brief(p), g, errno, text(p))
		}
	}
	for _, c := range wrong() {
		if g, errno := policy.Text(c.p); g != "" || errno != c.want {
			t.Errorf("Text(%s) = %.60q, %v, want %v", brief(c.p), g, errno, c.want)
		}
	}
}

func TestP92Parse(t *testing.T) {
	for _, p := range samples() {
		if g, errno := policy.Parse(text(p)); !same(g, p) || errno != api.OK {
			t.Errorf("Parse(%q) = %v, %v, want %v", text(p), g, errno, p)
		}
	}
}

// TestP92ParseOfWrong reads texts that have the form of a policy that may not be.
func TestP92ParseOfWrong(t *testing.T) {
	for _, c := range wrong() {
		s := text(c.p)
		want := c.want
		if len(s) > api.MaxText {
			want = api.ErrLong
		}
		if g, errno := policy.Parse(s); !nothing(g) || errno != want {
			t.Errorf("Parse(%.200q) = %v, %v, want %v", s, g, errno, want)
		}
	}
}

// refused asks for a text that is none.
func refused(t *testing.T, s string, want api.Errno) {
	t.Helper()
	if g, errno := policy.Parse(s); !nothing(g) || errno != want {
		t.Errorf("Parse(%.300q) = %s, %v, want %v", s, brief(g), errno, want)
	}
}

func TestP92ParseRefused(t *testing.T) {
	a, b := name(at(1)), name(at(2))
	for _, s := range []string{
		"", "\n", " ", "\n\n", "default", "default\n", "default \n", "default -", "default -\n\n", "\ndefault -\n", "default -\r\n", "default -\n\r", "default -\n ", "default -\n\x00",
		" default -\n", "default - \n", "default  -\n", "default\t-\n", "default - -\n", "default -\n-\n", "default -\ndefault -\n", "default -\ndefault 0\n", "Default -\n", "DEFAULT -\n", "defaul -\n", "defaults -\n",
		"default 00\n", "default 64\n", "default 1,0\n", "default 0,\n", "default 0, 1\n", "default --\n", "default 0x1\n", "default +1\n", "default " + a + "\n",
		"clear " + a + " -\n", "release " + a + " 7 -\n", "clear " + a + " -\ndefault -\n", "release " + a + " 7 -\ndefault -\n",
		"default -\nclear " + a + " -", "default -\nclear\n", "default -\nclear \n", "default -\nclear " + a + "\n", "default -\nclear " + a + " \n", "default -\nclear " + a + " - \n", "default -\nclear " + a + " - -\n",
		"default -\nclear  " + a + " -\n", "default -\nclear " + a + "  -\n", "default -\n clear " + a + " -\n", "default -\nclear " + a + " 7 -\n", "default -\nclear - " + a + "\n", "default -\nclear 0x1 -\n",
		"default -\nclear " + a[2:] + " -\n", "default -\nclear " + strings.ToUpper(a) + " -\n", "default -\nclear " + a[:41] + " -\n", "default -\nclear " + a + "0 -\n", "default -\nclear " + a[:41] + "A -\n", "default -\nclear " + a[:41] + "g -\n",
		"default -\nclear " + a + " 64\n", "default -\nclear " + a + " 0,0\n", "default -\nclears " + a + " -\n", "default -\nCLEAR " + a + " -\n", "default -\n\nclear " + a + " -\n", "default -\nclear " + a + " -\n\n",
		"default -\nclear " + a + " -\ndefault -\n", "default -\nrelease " + a + " 7 -\ndefault -\n", "default -\nrelease " + a + " 7 -\nclear " + a + " -\n", "default -\nclear " + a + " -\nrelease " + a + " 7 -\nclear " + b + " -\n",
		"default -\nrelease " + a + " 7 -", "default -\nrelease\n", "default -\nrelease " + a + "\n", "default -\nrelease " + a + " -\n", "default -\nrelease " + a + " 7\n", "default -\nrelease " + a + " 7 - -\n", "default -\nrelease " + a + " 7  -\n", "default -\nrelease " + a + "  7 -\n",
		"default -\nrelease 7 " + a + " -\n", "default -\nrelease " + a + " - 7\n", "default -\nrelease 0x1 7 -\n", "default -\nreleases " + a + " 7 -\n", "default -\nrelease " + a + " 7 64\n", "default -\nrelease " + a + " 7 00\n",
		"default -\n" + a + "\n", "default -\n-\n", "default -\n \n", "default -\n  \n", "default -\nx\n", "default -\nclear " + a + " -\nx\n", "default -\n# nothing\n", "\ufeffdefault -\n", "default \xff\n", "\xff\n", "default -\x00\n",
	} {
		refused(t, s, api.ErrPolicy)
	}
}

func TestP92ParseOfEntries(t *testing.T) {
	a := name(at(1))
	for _, n := range []uint32{0, 1, 9, 10, 99, 1000000, 1<<31 - 1, 1 << 31, 999999999, 1000000000, most - 1, most} {
		s := fmt.Sprintf("default -\nrelease %s %d -\n", a, n)
		if g, errno := policy.Parse(s); errno != api.OK || len(g.Releases) != 1 || g.Releases[0] != (api.Release{Address: at(1), Entry: n}) {
			t.Errorf("Parse(%q) = %v, %v", s, g, errno)
		}
	}
	for _, n := range []string{"", "00", "01", "007", "+7", "-7", "-0", "+0", "-1", "7.0", "7e0", "0x7", "0b1", "0o7", "1_0", "7,8", "7\t", "a", "٧", "４", "4294967296", "4294967303", "9999999999", "18446744073709551616", "18446744073709551623", "340282366920938463463374607431768211456", strings.Repeat("0", 60000), strings.Repeat("9", 60000), strings.Repeat("0", 60000) + "7"} {
		refused(t, "default -\nrelease "+a+" "+n+" -\n", api.ErrPolicy)
	}
}

// TestP92ParseOrderOfErrors reads texts that are refused for more than one reason.
func TestP92ParseOrderOfErrors(t *testing.T) {
	a, b := name(at(1)), name(at(2))
	twice := "default -\nclear " + a + " -\nclear " + a + " -\n"
	above := "default -\nrelease " + a + " 7 1\n"
	many := text(api.Policy{Clears: clears(1, 65, 0)})
	for _, c := range []struct {
		s    string
		want api.Errno
	}{
		{twice, api.ErrArg},
		{twice + "x\n", api.ErrPolicy},
		{twice + "clear " + b + " 64\n", api.ErrPolicy},
		{twice[:len(twice)-1], api.ErrPolicy},
		{above, api.ErrArg},
		{above + "\n", api.ErrPolicy},
		{above + "clear " + a + " 1\n", api.ErrPolicy},
		{many, api.ErrLong},
		{many + "x\n", api.ErrPolicy},
		{many[:len(many)-1], api.ErrPolicy},
		{strings.Replace(many, "default -", "default x", 1), api.ErrPolicy},
		{many + "clear " + a + " -\n", api.ErrLong},
		{text(api.Policy{Releases: releases(at(1), 0, 65, 1)}), api.ErrLong},
		{text(api.Policy{Releases: releases(at(1), 0, 65, 1)}) + "clear " + a + " -\n", api.ErrPolicy},
		{"default -\nclear " + b + " -\nclear " + a + " -\nrelease " + a + " 8 -\n", api.ErrArg},
		{"default -\nclear " + a + " -\nrelease " + a + " 8 -\nrelease " + a + " 7 -\n", api.ErrArg},
		{"default -\nrelease " + b + " 7 -\nrelease " + a + " 8 -\n", api.ErrArg},
		{"default 1\nclear " + a + " -\nrelease " + a + " 8 1\n", api.ErrArg},
	} {
		refused(t, c.s, c.want)
	}
}

func TestP92ParseOfLong(t *testing.T) {
	for _, s := range []string{"\n", " ", "x", "0", "\xff", "default -\n", "clear ", "release 0x", "default -\nclear " + name(at(1)) + " -\n"} {
		long := strings.Repeat(s, api.MaxText/len(s)+1)
		refused(t, long[:api.MaxText-1], api.ErrPolicy)
		refused(t, long[:api.MaxText], api.ErrPolicy)
		refused(t, (long + s)[:api.MaxText+1], api.ErrLong)
		refused(t, strings.Repeat(s, 1<<20), api.ErrLong)
	}
	for _, more := range []string{"\n", "x", " "} {
		p := text(full())
		refused(t, p+strings.Repeat(more, api.MaxText-len(p)), api.ErrPolicy)
		refused(t, p+strings.Repeat(more, api.MaxText+1-len(p)), api.ErrLong)
	}
}

func TestP92Lines(t *testing.T) {
	for _, p := range samples() {
		var got []string
		for n, s := range policy.Lines(p) {
			if n != len(got) {
				t.Errorf("line %d of %s has the number %d", len(got), brief(p), n)
			}
			got = append(got, s)
		}
		if !slices.Equal(got, lines(p)) {
			t.Errorf("Lines(%s) = %q, want %q", brief(p), got, lines(p))
		}
	}
	for _, c := range wrong() {
		for n, s := range policy.Lines(c.p) {
			t.Errorf("Lines(%s) tells %d, %q", brief(c.p), n, s)
		}
	}
}

func TestP92LinesLeftAndAgain(t *testing.T) {
	for _, p := range []api.Policy{{}, {Default: 3, Clears: clears(1, 2, 9)}, {Releases: releases(at(1), 5, 2, 0)}, {Default: 3, Clears: clears(1, 2, 9), Releases: releases(at(1), 5, 2, 8)}, full()} {
		each, want := policy.Lines(p), lines(p)
		for stop := 1; stop <= len(want); stop++ {
			var got []string
			each(func(n int, s string) bool { got = append(got, s); return len(got) < stop })
			if !slices.Equal(got, want[:stop]) {
				t.Errorf("left at %d, it has told %q", stop, got)
			}
		}
		pairs := 0
		for n, s := range each {
			if s != want[n] {
				t.Errorf("gone over again, it tells %q as %d", s, n)
			}
			for range each {
				pairs++
			}
		}
		if pairs != len(want)*len(want) {
			t.Errorf("gone over within itself, it tells %d", pairs)
		}
	}
}

func TestP92LinesAsItWas(t *testing.T) {
	p := api.Policy{Default: 3, Clears: clears(1, 2, 9), Releases: releases(at(1), 5, 2, 8)}
	want := lines(p)
	each := policy.Lines(p)
	p.Clears[0], p.Releases[1] = may(at(7), 1), api.Release{Address: at(8)}
	var got []string
	for _, s := range each {
		got = append(got, s)
		p.Clears[1].Label++
	}
	if !slices.Equal(got, want) {
		t.Errorf("changed with the policy: %q", got)
	}
}

// addresses are such of few bytes, of most and of all, and such without a pattern.
func addresses() []api.Address {
	l := []api.Address{{}, at(1), at(15), at(16), at(255), at(256), ends(1, 0), ends(0x0f, 1), ends(0x10, 0), ends(0x7f, 0xff), ends(0x80, 0), ends(0xff, 0)}
	for i := range 20 {
		var one, rest api.Address
		one[i] = 1
		for j := range rest {
			rest[j] = 0xff
		}
		l = append(l, one, rest)
		rest[i] = 0
		l = append(l, rest)
	}
	next := noise()
	for range 40 {
		var a api.Address
		for i := range a {
			a[i] = byte(next())
		}
		l = append(l, a)
	}
	return l
}

func TestP93Order(t *testing.T) {
	for _, a := range addresses() {
		for _, b := range addresses() {
			if g, w := policy.Order(a, b), strings.Compare(string(a[:]), string(b[:])); g != w {
				t.Errorf("Order(%x, %x) = %d, want %d", a, b, g, w)
			}
		}
	}
}

func TestP93NameAndAddress(t *testing.T) {
	for a, w := range map[api.Address]string{
		{}:                 "0x0000000000000000000000000000000000000000",
		at(5):              "0x0000000000000000000000000000000000000005",
		at(0xabcd):         "0x000000000000000000000000000000000000abcd",
		ends(0x0a, 0xf0):   "0x0a000000000000000000000000000000000000f0",
		ends(0xff, 0x09):   "0xff00000000000000000000000000000000000009",
		{9: 0x12, 10: 0x3}: "0x0000000000000000001203000000000000000000",
	} {
		if g := policy.Name(a); g != w {
			t.Errorf("Name(%x) = %s, want %s", a, g, w)
		}
		if g, errno := policy.Address(w); g != a || errno != api.OK {
			t.Errorf("Address(%s) = %x, %v, want %x", w, g, errno, a)
		}
	}
	for _, a := range addresses() {
		if g := policy.Name(a); g != name(a) {
			t.Errorf("Name(%x) = %s", a, g)
		}
		if g, errno := policy.Address(name(a)); g != a || errno != api.OK {
			t.Errorf("Address(%s) = %x, %v", name(a), g, errno)
		}
	}
}

func TestP93AddressRefused(t *testing.T) {
	zeros := strings.Repeat("0", 40)
	l := []string{"", "0", "0x", "0x0", "0x1", "x", zeros, "00" + zeros, "0X" + zeros, "0x" + zeros[:39], "0x" + zeros + "0", "0x0x" + zeros[:38], "0x" + zeros[:38] + "0x", "0x" + zeros + zeros, "-0x" + zeros[1:], "0x-" + zeros[1:], "0x+" + zeros[1:], " 0x" + zeros, "0x" + zeros + " ", "0x" + zeros + "\n", "0x " + zeros[1:], "x0" + zeros, "1x" + zeros, "0y" + zeros, "0x" + zeros[:20] + strings.Repeat("é", 10), strings.Repeat("0", 1<<20), "0x" + strings.Repeat("0", 64), "0x" + strings.Repeat("1", 65)}
	for i := range 40 {
		for _, c := range []byte("/:@AFG`gxX _-+.\x00\x80\xff") {
			for _, around := range []string{zeros, strings.Repeat("a", 40), strings.Repeat("0", i) + strings.Repeat("1", 40-i)} {
				b := []byte(around)
				b[i] = c
				l = append(l, "0x"+string(b))
			}
		}
	}
	for _, s := range l {
		if g, errno := policy.Address(s); g != (api.Address{}) || errno != api.ErrPolicy {
			t.Errorf("Address(%.80q) = %x, %v", s, g, errno)
		}
	}
}

// laid is the 32 bytes of a word, the highest first, made without the package that is tested.
func laid(w api.Word) string {
	return fmt.Sprintf("%016x%016x%016x%016x", w[3], w[2], w[1], w[0])
}

func TestP93WordAndOf(t *testing.T) {
	for _, c := range []struct {
		a api.Address
		w api.Word
	}{
		{api.Address{}, api.Word{}},
		{at(5), api.Word{5}},
		{ends(1, 2), api.Word{2, 0, 1 << 24}},
		{ends(0xff, 0), api.Word{0, 0, 0xff000000}},
		{api.Address{12: 1}, api.Word{1 << 56}},
		{api.Address{11: 1}, api.Word{0, 1}},
		{api.Address{3: 1}, api.Word{0, 0, 1}},
	} {
		if g := policy.Word(c.a); g != c.w {
			t.Errorf("Word(%x) = %x, want %x", c.a, g, c.w)
		}
		for _, high := range []api.Word{{}, {2: 1 << 32}, {3: 1}, {3: 1 << 63}, {2: math.MaxUint32 << 32, 3: math.MaxUint64}} {
			w := c.w
			w[2] |= high[2]
			w[3] |= high[3]
			if g := policy.Of(w); g != c.a {
				t.Errorf("Of(%x) = %x, want %x", w, g, c.a)
			}
		}
	}
	for _, a := range addresses() {
		w := policy.Word(a)
		if laid(w) != strings.Repeat("0", 24)+hex.EncodeToString(a[:]) || policy.Of(w) != a {
			t.Errorf("Word(%x) = %x, Of that %x", a, w, policy.Of(w))
		}
	}
	next := noise()
	for range 200 {
		var w api.Word
		for i := range w {
			w[i] = uint64(next())<<33 ^ uint64(next())
		}
		a := policy.Of(w)
		if g, want := hex.EncodeToString(a[:]), laid(w)[24:]; g != want {
			t.Errorf("Of(%x) = %s, want %s", w, g, want)
		}
	}
}

func TestP94ThereAndBack(t *testing.T) {
	seen := map[string]api.Policy{}
	for _, p := range samples() {
		s, errno := policy.Text(p)
		q, again := policy.Parse(s)
		if errno != api.OK || again != api.OK || !policy.Same(p, q) {
			t.Errorf("Parse(Text(%s)) = %s, %v, %v", brief(p), brief(q), errno, again)
		}
		if back, errno := policy.Text(q); back != s || errno != api.OK {
			t.Errorf("Text(Parse(%q)) = %q, %v", s, back, errno)
		}
		if o, ok := seen[s]; ok && !same(o, p) {
			t.Errorf("%s and %s have the text %q", brief(o), brief(p), s)
		}
		seen[s] = p
	}
}

// TestP94OneByteOff reads texts of which one byte is another one, or left out: what is read has that text.
func TestP94OneByteOff(t *testing.T) {
	s := text(api.Policy{Default: 1 << 12, Clears: []api.Clear{may(at(9), 3), may(ends(0xa1, 2), 5)}, Releases: []api.Release{lets(at(9), 0, 2), lets(at(9), 10, 3), lets(at(10), 4294967290, 1<<12)}})
	look := func(s string) {
		p, errno := policy.Parse(s)
		if errno != api.OK {
			if !nothing(p) || errno != api.ErrPolicy && errno != api.ErrArg {
				t.Errorf("Parse(%q) = %v, %v", s, p, errno)
			}
			return
		}
		if back, errno := policy.Text(p); back != s || errno != api.OK || text(p) != s {
			t.Errorf("Text(Parse(%q)) = %q, %v", s, back, errno)
		}
	}
	for i := range len(s) {
		look(s[:i])
		look(s[i:])
		look(s[:i] + s[i+1:])
		for c := range 256 {
			look(s[:i] + string([]byte{byte(c)}) + s[i+1:])
			look(s[:i] + string([]byte{byte(c)}) + s[i:])
		}
	}
}

func TestKeepsWhatIsHandedIn(t *testing.T) {
	c, r := clears(1, 5, 3), releases(at(1), 0, 5, 3)
	p := api.Policy{Default: 7, Clears: c[:3], Releases: r[:3]}
	wasC, wasR := slices.Clone(c), slices.Clone(r)
	look := func() {
		policy.Check(p)
		policy.Clearance(p, at(2))
		policy.Target(p, at(1), 2)
		policy.Text(p)
		policy.Same(p, p)
		for range policy.Lines(p) {
		}
	}
	look()
	slices.Reverse(c)
	slices.Reverse(r)
	slices.Reverse(wasC)
	slices.Reverse(wasR)
	look() // it is out of order now
	if !slices.Equal(c, wasC) || !slices.Equal(r, wasR) {
		t.Errorf("what was handed in has changed: %v %v", c, r)
	}
}

func TestParseIsNewMemory(t *testing.T) {
	s := text(api.Policy{Default: 7, Clears: clears(1, 3, 3), Releases: releases(at(1), 0, 3, 3)})
	p, _ := policy.Parse(s)
	q, _ := policy.Parse(s)
	clear(p.Clears[:cap(p.Clears)])
	clear(p.Releases[:cap(p.Releases)])
	if text(q) != s {
		t.Errorf("changed with another answer: %v", q)
	}
}
