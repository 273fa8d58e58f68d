package gauge_test

import (
	"testing"

	"excise/api"
	"excise/gauge"
)

// all is what becomes of a gauge and another one, or a cost that is like that.
type all struct {
	take, add, raise, lower, part, rest, used, back api.Gauge
	kind                                            api.GaugeKind
	took, added, raised, lowered, split, backed     api.Errno
}

// become is what becomes of both.
func become(g, h api.Gauge, n uint64) all {
	var a all
	a.take, a.kind, a.took = gauge.Take(g, costOf(h))
	a.add, a.added = gauge.Add(g, h)
	a.raise, a.raised = gauge.Raise(g, costOf(h))
	a.lower, a.lowered = gauge.Lower(g, costOf(h))
	a.part, a.rest, a.split = gauge.Split(g, n)
	a.used, a.back, a.backed = gauge.Back(n, g, h)
	return a
}

// gauges are all that came out.
func (a all) gauges() []api.Gauge {
	return []api.Gauge{a.take, a.add, a.raise, a.part, a.rest, a.used, a.back, a.lower}
}

func TestP184RightBecomesRight(t *testing.T) {
	l := gauges()
	for _, g := range l {
		for _, h := range l {
			for i, x := range become(g, h, g.Hi+h.Lo/2).gauges() {
				if !isRight(x) || gauge.Check(x) != api.OK {
					t.Fatalf("of %v and %v the %dth is %v", g, h, i, x)
				}
			}
		}
	}
}

// TestP184AlikeBecomesAlike has pairs of gauges, and pairs of others, each alike up to a label. Lower is left out where it refuses: that hangs on the numbers, as its chapter says.
func TestP184AlikeBecomesAlike(t *testing.T) {
	l := between(0, 3)
	for _, up := range []api.Label{api.Bottom, 1, 2, 3, api.Top} {
		for _, g := range l {
			for _, twin := range l {
				if !gauge.Alike(g, twin, up) {
					continue
				}
				for _, h := range l {
					for _, other := range l {
						if gauge.Alike(h, other, up) {
							becomeAlike(t, up, [2]api.Gauge{g, twin}, [2]api.Gauge{h, other})
						}
					}
				}
			}
		}
	}
}

// becomeAlike looks whether what becomes of the first ones is alike to what becomes of the second ones.
func becomeAlike(t *testing.T, up api.Label, g, h [2]api.Gauge) {
	t.Helper()
	for _, n := range []uint64{2, 7} {
		a, b := become(g[0], h[0], n), become(g[1], h[1], n)
		x, y := a.gauges(), b.gauges()
		for i := range x {
			if last := i == len(x)-1; last && (a.lowered != api.OK || b.lowered != api.OK) {
				continue
			}
			if !gauge.Alike(x[i], y[i], up) {
				t.Fatalf("up to %x, of %v and %v the %dth is %v, %v", up, g, h, i, x[i], y[i])
			}
		}
		if a.kind != b.kind || a.took != b.took || a.added != b.added || a.raised != b.raised || a.split != b.split || a.backed != b.backed {
			t.Fatalf("up to %x, of %v and %v comes %v and %v", up, g, h, a, b)
		}
	}
}

func TestP184PartsAreTheGauge(t *testing.T) {
	for _, g := range gauges() {
		for _, by := range []uint64{0, 1, 5, 62, 63, 64, 1000, most - 5, most} {
			part, rest, e := gauge.Split(g, by)
			if part.Left+rest.Left != g.Left || part.Lo+rest.Lo != g.Lo || part.Hi+rest.Hi != g.Hi || part.Label|rest.Label != g.Label || e != api.OK {
				t.Fatalf("Split(%v, %d) = %v, %v, %v", g, by, part, rest, e)
			}
			if whole, e := gauge.Add(part, rest); whole != g || e != api.OK {
				t.Fatalf("both parts of %v are %v, %v", g, whole, e)
			}
		}
	}
}

// TestP184OpenIsANumber takes costs that all know from gauges that all know.
func TestP184OpenIsANumber(t *testing.T) {
	l := []uint64{0, 1, 2, 3, 63, 64, 2300, 1 << 32, most - 1, most}
	for _, n := range l {
		for _, c := range l {
			want, kind := open(n), api.GaugeOut
			if n >= c {
				want, kind = open(n-c), api.GaugeFine
			}
			if g, k, e := gauge.Take(open(n), fixed(c)); g != want || k != kind || e != api.OK {
				t.Errorf("Take(%d, %d) = %v, %v, %v", n, c, g, k, e)
			}
		}
	}
}

// TestP184EachNumberWithin holds the bounds against all numbers that there may be between them: what is fine is enough for all, what is out for none.
func TestP184EachNumberWithin(t *testing.T) {
	l := between(0, 4)
	for _, g := range l {
		for _, h := range l {
			x, k, _ := gauge.Take(g, costOf(h))
			for left := g.Lo; left <= g.Hi; left++ {
				for cost := h.Lo; cost <= h.Hi; cost++ {
					enough := left >= cost
					if k == api.GaugeFine && (!enough || left-cost < x.Lo || left-cost > x.Hi) || k == api.GaugeOut && enough {
						t.Fatalf("Take(%v, %v) is %v, %v, %d being left and %d the cost", g, h, k, x, left, cost)
					}
				}
			}
		}
	}
}
