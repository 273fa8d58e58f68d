package gauge_test

import (
	"slices"
	"testing"

	"excise/api"
	"excise/gauge"
)

func TestExample(t *testing.T) {
	secret := api.Gauge{Left: 50, Lo: 40, Hi: 60, Label: 1}
	for _, c := range []struct {
		g    api.Gauge
		c    api.Cost
		want api.Gauge
		kind api.GaugeKind
	}{
		{open(100), fixed(30), open(70), api.GaugeFine},
		{open(100), fixed(101), open(100), api.GaugeOut},
		{secret, fixed(45), secret, api.GaugeSecret},
		{secret, api.Cost{Exact: 20, Least: 10, Most: 30, Label: 2}, api.Gauge{Left: 30, Lo: 10, Hi: 50, Label: 3}, api.GaugeFine},
	} {
		if g, k, e := gauge.Take(c.g, c.c); g != c.want || k != c.kind || e != api.OK {
			t.Errorf("Take(%v, %v) = %v, %v, %v", c.g, c.c, g, k, e)
		}
	}
	for _, c := range [][4]uint64{{640, 1000, 630, 10}, {640, 5, 5, 635}} {
		part, rest, e := gauge.Split(open(c[0]), c[1])
		if part != open(c[2]) || rest != open(c[3]) || e != api.OK {
			t.Errorf("Split(%d, %d) = %v, %v, %v", c[0], c[1], part, rest, e)
		}
	}
}

func TestP182Take(t *testing.T) {
	l := gauges()
	for _, a := range l {
		for _, b := range l {
			want, kind := a, api.GaugeSecret
			switch {
			case a.Lo >= b.Hi:
				kind = api.GaugeFine
				want = madeRight(api.Gauge{Left: a.Left - b.Left, Lo: a.Lo - b.Hi, Hi: a.Hi - b.Lo, Label: a.Label | b.Label})
			case a.Hi < b.Lo:
				kind = api.GaugeOut
			}
			g, k, e := gauge.Take(a, costOf(b))
			hold(t, "Take", g, want)
			if k != kind || e != api.OK {
				t.Fatalf("Take(%v, %v) is %v, %v, want %v", a, b, k, e, kind)
			}
		}
	}
}

// TestP182TakeAtTheBounds has costs that are just enough, or just too much, for one of the bounds.
func TestP182TakeAtTheBounds(t *testing.T) {
	g := api.Gauge{Left: 50, Lo: 40, Hi: 60, Label: 1}
	for _, c := range []struct {
		exact, least, most uint64
		kind               api.GaugeKind
	}{
		{40, 40, 40, api.GaugeFine},
		{0, 0, 0, api.GaugeFine},
		{3, 0, 40, api.GaugeFine},
		{41, 41, 41, api.GaugeSecret},
		{40, 40, 41, api.GaugeSecret},
		{0, 0, most, api.GaugeSecret},
		{50, 50, 50, api.GaugeSecret},
		{60, 60, 60, api.GaugeSecret},
		{70, 60, 70, api.GaugeSecret},
		{61, 61, 61, api.GaugeOut},
		{61, 61, 70, api.GaugeOut},
		{most, most, most, api.GaugeOut},
	} {
		x := api.Cost{Exact: c.exact, Least: c.least, Most: c.most}
		if c.least != c.most {
			x.Label = 2
		}
		if h, k, e := gauge.Take(g, x); k != c.kind || e != api.OK || (k != api.GaugeFine && h != g) {
			t.Errorf("Take(%v) = %v, %v, %v", x, h, k, e)
		}
	}
}

func TestP182TakeOfWrongs(t *testing.T) {
	for _, g := range wrongs() {
		for _, h := range append(wrongs(), few()...) {
			a, k, e := gauge.Take(g, costOf(h))
			b, m, f := gauge.Take(h, costOf(g))
			refused(t, "Take of a wrong gauge", e, a)
			refused(t, "Take of a wrong cost", f, b)
			if k != 0 || m != 0 {
				t.Errorf("a kind %v, %v beside an error", k, m)
			}
		}
	}
}

func TestP182Split(t *testing.T) {
	for _, g := range append(gauges(), between(126, 129)...) {
		for _, by := range []uint64{0, 1, 2, 3, 4, 62, 63, 64, 65, 126, 127, 128, 1000, most - most/64 - 1, most - most/64, most - 1, most} {
			first := func(n uint64) uint64 { return min(by, n-n/64) }
			p := api.Gauge{Left: first(g.Left), Lo: first(g.Lo), Hi: first(g.Hi), Label: g.Label}
			r := api.Gauge{Left: g.Left - p.Left, Lo: g.Lo - p.Lo, Hi: g.Hi - p.Hi, Label: g.Label}
			part, rest, e := gauge.Split(g, by)
			hold(t, "part", part, madeRight(p))
			hold(t, "rest", rest, madeRight(r))
			if e != api.OK {
				t.Fatalf("Split(%v, %d): %v", g, by, e)
			}
		}
	}
}

func TestP182SplitOfFew(t *testing.T) {
	g := api.Gauge{Left: 640, Lo: 63, Hi: 6400, Label: 5}
	for _, c := range []struct {
		g          api.Gauge
		by         uint64
		part, rest api.Gauge
	}{
		{g, 0, open(0), g},
		{g, 63, open(63), api.Gauge{Left: 577, Lo: 0, Hi: 6337, Label: 5}},
		{g, 64, api.Gauge{Left: 64, Lo: 63, Hi: 64, Label: 5}, api.Gauge{Left: 576, Lo: 0, Hi: 6336, Label: 5}},
		{g, most, api.Gauge{Left: 630, Lo: 63, Hi: 6300, Label: 5}, api.Gauge{Left: 10, Lo: 0, Hi: 100, Label: 5}},
		{api.Gauge{Left: 70, Lo: 64, Hi: 127, Label: 1}, most, api.Gauge{Left: 69, Lo: 63, Hi: 126, Label: 1}, open(1)},
		{open(63), most, open(63), open(0)},
		{open(64), most, open(63), open(1)},
		{open(0), most, open(0), open(0)},
	} {
		if part, rest, e := gauge.Split(c.g, c.by); part != c.part || rest != c.rest || e != api.OK {
			t.Errorf("Split(%v, %d) = %v, %v, %v", c.g, c.by, part, rest, e)
		}
	}
}

func TestP182SplitOfWrongs(t *testing.T) {
	for _, g := range wrongs() {
		for _, by := range []uint64{0, 1, 64, most, huge} {
			part, rest, e := gauge.Split(g, by)
			refused(t, "Split", e, part, rest)
		}
	}
	for _, g := range few() {
		for _, by := range []uint64{most + 1, 1 << 63, huge} {
			part, rest, e := gauge.Split(g, by)
			refused(t, "Split by more than there may be", e, part, rest)
		}
	}
}

// taken are the gauges that Each is to tell.
func taken(g api.Gauge, l ...api.Cost) []api.Gauge {
	var told []api.Gauge
	for _, c := range l {
		if gauge.Check(g, l...) != api.OK || g.Lo < c.Most {
			break
		}
		g = madeRight(api.Gauge{Left: g.Left - c.Exact, Lo: g.Lo - c.Most, Hi: g.Hi - c.Least, Label: g.Label | c.Label})
		told = append(told, g)
	}
	return told
}

// each are the gauges that Each tells, whose places must be told in order.
func each(t *testing.T, g api.Gauge, l ...api.Cost) []api.Gauge {
	t.Helper()
	var told []api.Gauge
	for at, now := range gauge.Each(g, l...) {
		if at != len(told) {
			t.Fatalf("Each(%v, %v) tells the place %d behind %d", g, l, at, len(told))
		}
		told = append(told, now)
	}
	return told
}

func TestP182Each(t *testing.T) {
	l := few()
	next := noise()
	for range 3000 {
		g := l[next(uint64(len(l)))]
		var c []api.Cost
		for range next(6) {
			c = append(c, costOf(l[next(uint64(len(l)))]))
		}
		if got, want := each(t, g, c...), taken(g, c...); !slices.Equal(got, want) {
			t.Fatalf("Each(%v, %v) tells %v, want %v", g, c, got, want)
		}
	}
}

func TestP182EachOfFew(t *testing.T) {
	secret := api.Cost{Exact: 2, Least: 1, Most: 3, Label: 2}
	wrong := api.Cost{Exact: 2, Least: 1, Most: 3}
	five, two := open(5), api.Gauge{Left: 3, Lo: 2, Hi: 4, Label: 2}
	for _, c := range []struct {
		g    api.Gauge
		l    []api.Cost
		want []api.Gauge
	}{
		{five, nil, nil},
		{five, []api.Cost{fixed(0)}, []api.Gauge{five}},
		{five, []api.Cost{fixed(2), fixed(3), fixed(0), fixed(1), fixed(0)}, []api.Gauge{open(3), open(0), open(0)}},
		{five, []api.Cost{fixed(6), fixed(1)}, nil},
		{five, []api.Cost{secret, fixed(1), fixed(1), fixed(1)}, []api.Gauge{two, {Left: 2, Lo: 1, Hi: 3, Label: 2}, {Left: 1, Lo: 0, Hi: 2, Label: 2}}},
		{five, []api.Cost{secret, fixed(3), fixed(0)}, []api.Gauge{two}},
		{five, []api.Cost{secret, fixed(5), fixed(0)}, []api.Gauge{two}},
		{five, []api.Cost{fixed(1), fixed(1), wrong}, nil},
		{five, []api.Cost{fixed(9), wrong}, nil},
		{api.Gauge{Left: 5, Lo: 5, Hi: 5, Label: 1}, []api.Cost{fixed(1)}, nil},
	} {
		if got := each(t, c.g, c.l...); !slices.Equal(got, c.want) {
			t.Errorf("Each(%v, %v) tells %v", c.g, c.l, got)
		}
	}
}

func TestP182EachOfWrongs(t *testing.T) {
	for _, g := range wrongs() {
		if got := each(t, g, fixed(0)); got != nil {
			t.Errorf("Each of a wrong gauge %v tells %v", g, got)
		}
		for at := range 4 {
			c := []api.Cost{fixed(1), fixed(1), fixed(1), fixed(1)}
			c[at] = costOf(g)
			if got := each(t, open(100), c...); got != nil {
				t.Errorf("Each of a wrong cost %v at %d tells %v", c[at], at, got)
			}
		}
	}
}

func TestP182EachLeftAndAgain(t *testing.T) {
	c := []api.Cost{fixed(1), fixed(2), {Exact: 4, Least: 3, Most: 5, Label: 1}, fixed(6)}
	want := taken(open(100), c...)
	all := gauge.Each(open(100), c...)
	for stop := 1; stop <= len(want); stop++ {
		var got []api.Gauge
		all(func(at int, now api.Gauge) bool { got = append(got, now); return len(got) < stop })
		if !slices.Equal(got, want[:stop]) {
			t.Errorf("left at %d, it has told %v", stop, got)
		}
	}
	many := 0
	for at, now := range all {
		if now != want[at] {
			t.Errorf("gone over again, it tells %v at %d", now, at)
		}
		for range all {
			many++
		}
	}
	if many != len(want)*len(want) {
		t.Errorf("gone over within itself, it tells %d", many)
	}
}

// TestP182EachKeepsNoList changes the list that was handed in, and looks for changes of it and of the room behind it.
func TestP182EachKeepsNoList(t *testing.T) {
	c := []api.Cost{fixed(1), fixed(2), fixed(3), fixed(4)}
	all := gauge.Each(open(100), c[:3]...)
	want := []api.Gauge{open(99), open(97), open(94)}
	for range 2 {
		for at, now := range all {
			if at >= len(want) || now != want[at] {
				t.Errorf("it tells %v at %d", now, at)
			}
			c[at], c[2] = fixed(50), fixed(most+1)
		}
	}
	c = []api.Cost{fixed(1), fixed(2), fixed(3), fixed(4)}
	still := slices.Clone(c)
	each(t, open(100), c[:3]...)
	if e := gauge.Check(open(1), c[:3]...); e != api.OK || !slices.Equal(c, still) {
		t.Errorf("what was handed in is changed: %v", c)
	}
	bad := []api.Cost{fixed(most + 1)}
	all = gauge.Each(open(100), bad...)
	bad[0] = fixed(1)
	for _, now := range all {
		t.Errorf("of what was wrong when it was asked for, it tells %v", now)
	}
}
