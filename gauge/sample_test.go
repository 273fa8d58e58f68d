package gauge_test

import (
	"testing"

	"excise/api"
	"excise/gauge"
)

// The most of anything, and the greatest number that can be handed in.
const (
	most = uint64(api.MaxGas)
	huge = uint64(1<<64 - 1)
)

// open is a gauge that all know.
func open(n uint64) api.Gauge { return api.Gauge{Left: n, Lo: n, Hi: n} }

// fixed is a cost that all know.
func fixed(n uint64) api.Cost { return api.Cost{Exact: n, Least: n, Most: n} }

// costOf is the cost of the same numbers and label.
func costOf(g api.Gauge) api.Cost {
	return api.Cost{Exact: g.Left, Least: g.Lo, Most: g.Hi, Label: g.Label}
}

// between are the right gauges from one number to another one, with some labels.
func between(from, to uint64) []api.Gauge {
	var l []api.Gauge
	for lo := from; lo <= to; lo++ {
		l = append(l, open(lo))
		for hi := lo + 1; hi <= to; hi++ {
			for left := lo; left <= hi; left++ {
				for _, a := range []api.Label{1, 2, 1<<63 | 4} {
					l = append(l, api.Gauge{Left: left, Lo: lo, Hi: hi, Label: a})
				}
			}
		}
	}
	return l
}

// gauges are small ones, such at the most, and such without a pattern, all right.
func gauges() []api.Gauge {
	l := append(between(0, 4), between(63, 66)...)
	l = append(l, between(most-2, most)...)
	l = append(l, open(most/2), open(most/2+1), api.Gauge{Left: 5, Lo: 0, Hi: most, Label: 1}, api.Gauge{Left: most, Lo: 0, Hi: most, Label: 2}, api.Gauge{Left: 0, Lo: 0, Hi: most, Label: api.Top})
	next := noise()
	for _, below := range []uint64{100, 1000, 1 << 20, most, most} {
		a, b, c := next(below), next(below), next(below)
		lo, hi := min(a, b, c), max(a, b, c)
		l = append(l, open(a), api.Gauge{Left: a + b + c - lo - hi, Lo: lo, Hi: hi, Label: api.Label(next(most))<<20 | 1})
	}
	return l
}

// few are some of the right gauges, of each kind.
func few() []api.Gauge {
	l := between(0, 3)
	for i, g := range gauges() {
		if i%7 == 0 {
			l = append(l, g)
		}
	}
	return l
}

// costs are the costs of gauges.
func costs(l []api.Gauge) []api.Cost {
	var c []api.Cost
	for _, g := range l {
		c = append(c, costOf(g))
	}
	return c
}

// wrongs are gauges that are not right, each for one reason, or for several.
func wrongs() []api.Gauge {
	return []api.Gauge{
		{Left: 1, Lo: 2, Hi: 3, Label: 1},
		{Left: 4, Lo: 2, Hi: 3, Label: 1},
		{Left: 2, Lo: 3, Hi: 2, Label: 1},
		{Left: 3, Lo: 3, Hi: 2, Label: 1},
		{Left: 3, Lo: 2, Hi: 2},
		{Left: 1, Lo: 2, Hi: 2},
		{Left: 2, Lo: 1, Hi: 2},
		{Left: 1, Lo: 1, Hi: 2},
		{Left: 2, Lo: 2, Hi: 2, Label: 1},
		{Label: 4},
		{Label: 1 << 63},
		{Label: api.Top},
		{Left: most, Lo: most, Hi: most, Label: 1},
		{Left: most, Lo: most, Hi: most + 1, Label: 1},
		{Left: most + 1, Lo: most, Hi: most + 1, Label: 1},
		{Left: 0, Lo: 0, Hi: most + 1, Label: 1},
		{Left: most + 1, Lo: most + 1, Hi: most + 1},
		{Left: most + 1, Lo: 0, Hi: most, Label: 1},
		{Left: huge, Lo: huge, Hi: huge},
		{Left: 7, Lo: 0, Hi: huge, Label: 3},
		{Left: huge, Lo: huge, Hi: 0, Label: 3},
		{Left: huge, Lo: 0, Hi: 5, Label: 3},
		{Left: 1 << 63, Lo: 1 << 62, Hi: 1<<63 + 1, Label: 3},
		{Left: 1, Lo: 1, Hi: 0},
		{Left: 0, Lo: 1, Hi: 0},
	}
}

// noise tells numbers without a pattern, the same ones each time.
func noise() func(below uint64) uint64 {
	n := uint64(0x9e3779b97f4a7c15)
	return func(below uint64) uint64 {
		n ^= n << 13
		n ^= n >> 7
		n ^= n << 17
		return (n >> 8) % below
	}
}

// isRight tells whether a gauge is, as the document tells it.
func isRight(g api.Gauge) bool {
	return g.Lo <= g.Left && g.Left <= g.Hi && g.Hi <= most && (g.Label == api.Bottom) == (g.Lo == g.Hi)
}

// madeRight is a gauge that is made right.
func madeRight(g api.Gauge) api.Gauge {
	if g.Lo == g.Hi {
		g.Label = api.Bottom
	}
	return g
}

// hold looks for a gauge that ought to have come out, and whether it is right.
func hold(t *testing.T, what string, got, want api.Gauge) {
	t.Helper()
	if got != want || !isRight(got) || gauge.Check(got) != api.OK {
		t.Fatalf("%s: %v, want %v", what, got, want)
	}
}

// refused looks whether nothing came out but an error.
func refused(t *testing.T, what string, e api.Errno, l ...api.Gauge) {
	t.Helper()
	for _, g := range l {
		if g != (api.Gauge{}) {
			t.Errorf("%s: %v beside an error", what, g)
		}
	}
	if e != api.ErrArg {
		t.Errorf("%s: %v, want ErrArg", what, e)
	}
}

// alike tells whether two gauges are, as the document tells it.
func alike(a, b api.Gauge, up api.Label) bool {
	known := a.Label&^up == 0
	return a.Lo == b.Lo && a.Hi == b.Hi && a.Label == b.Label && (a.Left == b.Left || !known)
}
