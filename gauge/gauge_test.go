package gauge_test

import (
	"testing"

	"excise/api"
	"excise/gauge"
)

func TestLimits(t *testing.T) {
	if api.MaxGas != 1<<40 || api.GaugeFine != 0 || api.GaugeOut != 1 || api.GaugeSecret != 2 || api.ErrArg != 2 {
		t.Errorf("MaxGas %d, kinds %d, %d, %d, ErrArg %d", api.MaxGas, api.GaugeFine, api.GaugeOut, api.GaugeSecret, api.ErrArg)
	}
}

func TestP181OfAndFixed(t *testing.T) {
	for _, n := range []uint64{0, 1, 2, 63, 64, 2300, 1 << 30, 1<<32 - 1, 1 << 32, most - 1, most} {
		if g, e := gauge.Of(n); g != open(n) || e != api.OK {
			t.Errorf("Of(%d) = %v, %v", n, g, e)
		}
		if c, e := gauge.Fixed(n); c != fixed(n) || e != api.OK {
			t.Errorf("Fixed(%d) = %v, %v", n, c, e)
		}
	}
	for _, n := range []uint64{most + 1, most + 2, 2 * most, 1 << 63, 1<<63 + 5, huge - 1, huge} {
		g, e := gauge.Of(n)
		refused(t, "Of", e, g)
		if c, e := gauge.Fixed(n); c != (api.Cost{}) || e != api.ErrArg {
			t.Errorf("Fixed(%d) = %v, %v", n, c, e)
		}
	}
}

func TestP181Check(t *testing.T) {
	l := gauges()
	for _, g := range l {
		if e := gauge.Check(g); e != api.OK {
			t.Errorf("Check(%v) = %v", g, e)
		}
		if e := gauge.Check(g, costOf(g), fixed(0)); e != api.OK {
			t.Errorf("Check(%v, the same) = %v", g, e)
		}
	}
	if e := gauge.Check(l[0], costs(l)...); e != api.OK {
		t.Errorf("Check of all = %v", e)
	}
	if e := gauge.Check(l[0], []api.Cost{}...); e != api.OK {
		t.Errorf("Check of none = %v", e)
	}
}

func TestP181CheckOfWrongs(t *testing.T) {
	l := costs(few())
	for _, g := range wrongs() {
		if isRight(g) {
			t.Fatalf("%v is right", g)
		}
		refused(t, "Check", gauge.Check(g))
		refused(t, "Check", gauge.Check(g, l...))
		refused(t, "Check", gauge.Check(g, costOf(g)))
		refused(t, "Check", gauge.Check(api.Gauge{}, costOf(g)))
		for at := range l { // each place counts
			many := append(append(costs(few())[:at], costOf(g)), l[at:]...)
			refused(t, "Check", gauge.Check(open(5), many...))
		}
	}
}

// TestP181CheckOfEach has all gauges of small numbers, right or not.
func TestP181CheckOfEach(t *testing.T) {
	for _, near := range []uint64{0, most - 2} {
		for n := range uint64(4 * 4 * 4 * 3) {
			g := api.Gauge{Left: near + n%4, Lo: near + n/4%4, Hi: near + n/16%4, Label: api.Label(n / 64)}
			want := api.OK
			if !isRight(g) {
				want = api.ErrArg
			}
			if e := gauge.Check(g); e != want {
				t.Errorf("Check(%v) = %v, want %v", g, e, want)
			}
			if e := gauge.Check(open(1), costOf(g)); e != want {
				t.Errorf("Check(1, %v) = %v, want %v", costOf(g), e, want)
			}
		}
	}
}

func TestP183Add(t *testing.T) {
	l := gauges()
	for _, a := range l {
		for _, b := range l {
			g, e := gauge.Add(a, b)
			h, f := gauge.Raise(a, costOf(b))
			if a.Hi+b.Hi > most {
				refused(t, "Add", e, g)
				refused(t, "Raise", f, h)
				continue
			}
			want := madeRight(api.Gauge{Left: a.Left + b.Left, Lo: a.Lo + b.Lo, Hi: a.Hi + b.Hi, Label: a.Label | b.Label})
			hold(t, "Add", g, want)
			hold(t, "Raise", h, want)
			if e != api.OK || f != api.OK {
				t.Fatalf("Add %v, Raise %v", e, f)
			}
		}
	}
}

func TestP183AddToTheMost(t *testing.T) {
	for _, n := range []uint64{0, 1, 77, most / 2, most} {
		g, e := gauge.Add(open(n), open(most-n))
		if g != open(most) || e != api.OK {
			t.Errorf("Add(%d, the rest) = %v, %v", n, g, e)
		}
		h, e := gauge.Raise(open(most-n), fixed(n))
		if h != open(most) || e != api.OK {
			t.Errorf("Raise(the rest, %d) = %v, %v", n, h, e)
		}
		g, e = gauge.Add(open(n+1), open(most-min(n, most-1)))
		refused(t, "Add", e, g)
	}
	g, e := gauge.Add(api.Gauge{Left: 1, Lo: 0, Hi: most, Label: 1}, api.Gauge{Left: 0, Lo: 0, Hi: 1, Label: 1})
	refused(t, "Add of a most above it", e, g)
	g, e = gauge.Raise(api.Gauge{Left: 1, Lo: 0, Hi: 1, Label: 1}, api.Cost{Exact: 0, Least: 0, Most: most, Label: 1})
	refused(t, "Raise of a most above it", e, g)
}

func TestP183Lower(t *testing.T) {
	l := gauges()
	for _, a := range l {
		for _, b := range l {
			g, e := gauge.Lower(a, costOf(b))
			if b.Left > a.Left {
				refused(t, "Lower", e, g)
				continue
			}
			want := api.Gauge{Left: a.Left - b.Left, Hi: a.Hi - b.Lo, Label: a.Label | b.Label}
			if a.Lo > b.Hi {
				want.Lo = a.Lo - b.Hi
			}
			hold(t, "Lower", g, madeRight(want))
			if e != api.OK {
				t.Fatalf("Lower(%v, %v): %v", a, b, e)
			}
		}
	}
}

func TestP183LowerOfFew(t *testing.T) {
	g := api.Gauge{Left: 50, Lo: 40, Hi: 60, Label: 1}
	for _, c := range []struct {
		g    api.Gauge
		c    api.Cost
		want api.Gauge
		e    api.Errno
	}{
		{g, fixed(40), api.Gauge{Left: 10, Lo: 0, Hi: 20, Label: 1}, api.OK},
		{g, fixed(50), api.Gauge{Left: 0, Lo: 0, Hi: 10, Label: 1}, api.OK},
		{g, fixed(51), api.Gauge{}, api.ErrArg},
		{g, api.Cost{Exact: 30, Least: 20, Most: 100, Label: 2}, api.Gauge{Left: 20, Lo: 0, Hi: 40, Label: 3}, api.OK},
		{open(5), api.Cost{Exact: 5, Least: 5, Most: 9, Label: 2}, open(0), api.OK},
		{open(5), api.Cost{Exact: 5, Least: 4, Most: 9, Label: 2}, api.Gauge{Left: 0, Lo: 0, Hi: 1, Label: 2}, api.OK},
		{open(5), fixed(5), open(0), api.OK},
		{open(5), fixed(6), api.Gauge{}, api.ErrArg},
		{open(0), fixed(most), api.Gauge{}, api.ErrArg},
	} {
		if h, e := gauge.Lower(c.g, c.c); h != c.want || e != c.e {
			t.Errorf("Lower(%v, %v) = %v, %v", c.g, c.c, h, e)
		}
	}
}

func TestP183OfWrongs(t *testing.T) {
	for _, g := range wrongs() {
		for _, h := range append(wrongs(), few()...) {
			for i, pair := range [][2]api.Gauge{{g, h}, {h, g}} {
				a, b := pair[0], pair[1]
				s, e := gauge.Add(a, b)
				refused(t, "Add", e, s)
				s, e = gauge.Raise(a, costOf(b))
				refused(t, "Raise", e, s)
				s, e = gauge.Lower(a, costOf(b))
				refused(t, "Lower", e, s)
				for _, limit := range []uint64{0, 3, 100, most, huge} {
					u, back, e := gauge.Back(limit, a, b)
					refused(t, "Back", e, u, back)
				}
				if t.Failed() {
					t.Fatalf("of %v and %v, the wrong one being %d", a, b, i)
				}
			}
		}
	}
}

func TestP183Back(t *testing.T) {
	l := few()
	for _, left := range l {
		for _, refund := range l {
			for _, limit := range []uint64{0, 1, 4, 5, 9, 66, 70, 500, most - 1, most, most + 1, huge} {
				used, back, e := gauge.Back(limit, left, refund)
				if limit < left.Hi || limit > most {
					refused(t, "Back", e, used, back)
					continue
				}
				u := api.Gauge{Left: limit - left.Left, Lo: limit - left.Hi, Hi: limit - left.Lo, Label: left.Label}
				b := api.Gauge{Left: min(u.Left/5, refund.Left), Lo: min(u.Lo/5, refund.Lo), Hi: min(u.Hi/5, refund.Hi), Label: left.Label | refund.Label}
				hold(t, "used", used, u)
				hold(t, "back", back, madeRight(b))
				if e != api.OK {
					t.Fatalf("Back(%d, %v, %v): %v", limit, left, refund, e)
				}
			}
		}
	}
}

func TestP183BackOfFew(t *testing.T) {
	secret := api.Gauge{Left: 50, Lo: 40, Hi: 60, Label: 1}
	for _, c := range []struct {
		limit        uint64
		left, refund api.Gauge
		used, back   api.Gauge
	}{
		{1000, open(400), open(200), open(600), open(120)},
		{1000, open(900), open(500), open(100), open(20)},
		{1000, open(900), open(19), open(100), open(19)},
		{1000, open(901), open(500), open(99), open(19)},
		{7, open(7), open(7), open(0), open(0)},
		{most, open(0), open(most), open(most), open(most / 5)},
		{60, secret, open(0), api.Gauge{Left: 10, Lo: 0, Hi: 20, Label: 1}, open(0)},
		{160, secret, open(20), api.Gauge{Left: 110, Lo: 100, Hi: 120, Label: 1}, open(20)},
		{160, secret, open(23), api.Gauge{Left: 110, Lo: 100, Hi: 120, Label: 1}, api.Gauge{Left: 22, Lo: 20, Hi: 23, Label: 1}},
		{1000, open(900), api.Gauge{Left: 9, Lo: 4, Hi: 30, Label: 2}, open(100), api.Gauge{Left: 9, Lo: 4, Hi: 20, Label: 2}},
		{160, secret, api.Gauge{Left: 21, Lo: 1, Hi: 30, Label: 2}, api.Gauge{Left: 110, Lo: 100, Hi: 120, Label: 1}, api.Gauge{Left: 21, Lo: 1, Hi: 24, Label: 3}},
		{1000, open(900), api.Gauge{Left: 31, Lo: 20, Hi: 50, Label: 2}, open(100), open(20)},
	} {
		used, back, e := gauge.Back(c.limit, c.left, c.refund)
		if used != c.used || back != c.back || e != api.OK {
			t.Errorf("Back(%d, %v, %v) = %v, %v, %v", c.limit, c.left, c.refund, used, back, e)
		}
	}
	for _, limit := range []uint64{0, 40, 50, 59, most + 1, huge} {
		used, back, e := gauge.Back(limit, secret, open(3))
		refused(t, "Back", e, used, back)
	}
}

func TestP183Alike(t *testing.T) {
	l := append(append(few(), wrongs()...), api.Gauge{Left: 3, Lo: 1, Hi: 4, Label: 6}, api.Gauge{Left: 2, Lo: 1, Hi: 4, Label: 6}, api.Gauge{Left: 2, Lo: 1, Hi: 5, Label: 6})
	for _, up := range []api.Label{api.Bottom, 1, 2, 3, 4, 6, 7, 1<<63 | 4, api.Top} {
		for _, a := range l {
			for _, b := range l {
				if g := gauge.Alike(a, b, up); g != alike(a, b, up) {
					t.Fatalf("Alike(%v, %v, %x) = %v", a, b, up, g)
				}
			}
		}
	}
}
