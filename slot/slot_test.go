package slot_test

import (
	"slices"
	"testing"

	"excise/api"
	"excise/slot"
)

func TestExample(t *testing.T) {
	s, key := slot.New(), api.Word{7}
	if errno := s.Put(key, val(5, 1)); errno != api.OK {
		t.Errorf("Put = %v", errno)
	}
	if g, w := s.Get(key), s.Was(key); g != val(5, 1) || w != nought {
		t.Errorf("Get, Was = %v, %v", g, w)
	}
	if errno, w := s.Settle(), s.Was(key); errno != api.OK || w != val(5, 1) {
		t.Errorf("Settle, Was = %v, %v", errno, w)
	}
	if errno := s.Put(key, nought); errno != api.OK {
		t.Errorf("Put = %v", errno)
	}
	if n, g, w := s.Len(), s.Get(key), s.Was(key); n != 0 || g != nought || w != val(5, 1) {
		t.Errorf("Len, Get, Was = %d, %v, %v", n, g, w)
	}
}

func TestP151New(t *testing.T) {
	hold(t, slot.New(), newModel(), keys())
	s := slot.New()
	put(t, s, pair{api.Word{1}, val(1, 1)})
	settle(t, s)
	hold(t, slot.New(), newModel(), keys())
	hold(t, with(t, true), newModel(), keys())
}

func TestP151PutOfEachKeyAndValue(t *testing.T) {
	for _, key := range keys() {
		for _, first := range values() {
			for _, next := range values() {
				s, m := slot.New(), newModel()
				for _, v := range []api.Val{first, next, first} {
					put(t, s, pair{key, v})
					m.put(key, v)
					if g, w := s.Get(key), s.Was(key); g != v || w != nought || s.Len() != len(m.pairs()) {
						t.Fatalf("%v of %v is told as %v, that was %v, Len %d", v, key, g, w, s.Len())
					}
				}
				settle(t, s)
				m.settle()
				for _, v := range []api.Val{first, next, nought, next, first} {
					put(t, s, pair{key, v})
					m.put(key, v)
					if g, w := s.Get(key), s.Was(key); g != v || w != first || s.Len() != len(m.pairs()) {
						t.Fatalf("%v of %v is told as %v, that was %v, Len %d", v, key, g, w, s.Len())
					}
				}
			}
		}
	}
}

func TestP151SettleTellsWhatIs(t *testing.T) {
	s := slot.New()
	a, b, c := api.Word{1}, api.Word{0, 1}, api.Word{2}
	for _, step := range []struct {
		put       []pair
		settle    bool
		aWas, was api.Val
	}{
		{nil, true, nought, nought},
		{[]pair{{a, val(1, 0)}, {b, val(2, 4)}}, false, nought, nought},
		{nil, true, val(1, 0), val(2, 4)},
		{nil, true, val(1, 0), val(2, 4)},
		{[]pair{{a, nought}, {b, val(0, 4)}}, false, val(1, 0), val(2, 4)},
		{[]pair{{a, val(3, 0)}}, false, val(1, 0), val(2, 4)},
		{[]pair{{a, nought}, {c, val(9, 9)}}, true, nought, val(0, 4)},
		{[]pair{{b, nought}}, true, nought, nought},
		{[]pair{{a, val(1, 0)}, {a, nought}}, true, nought, nought},
	} {
		put(t, s, step.put...)
		if step.settle {
			settle(t, s)
		}
		if g, h := s.Was(a), s.Was(b); g != step.aWas || h != step.was {
			t.Errorf("%v: Was tells %v, %v", step, g, h)
		}
		if step.settle && (s.Get(a) != step.aWas || s.Get(b) != step.was) {
			t.Errorf("%v: settled, Get tells %v, %v", step, s.Get(a), s.Get(b))
		}
	}
	if s.Get(c) != val(9, 9) || s.Was(c) != val(9, 9) || s.Len() != 1 {
		t.Errorf("%v, that was %v, is there; Len %d", s.Get(c), s.Was(c), s.Len())
	}
}

func TestP151OfNone(t *testing.T) {
	if api.ErrNil != 1 || api.OK != 0 {
		t.Errorf("ErrNil %d, OK %d", api.ErrNil, api.OK)
	}
	for name, s := range nones() {
		for range 2 {
			for _, key := range keys() {
				for _, v := range []api.Val{nought, val(5, 0), val(0, 1), val(5, api.Top)} {
					if errno := s.Put(key, v); errno != api.ErrNil {
						t.Errorf("%s: Put = %v", name, errno)
					}
				}
				if g, w := s.Get(key), s.Was(key); g != nought || w != nought {
					t.Errorf("%s: Get, Was = %v, %v", name, g, w)
				}
			}
			if errno := s.Settle(); errno != api.ErrNil {
				t.Errorf("%s: Settle = %v", name, errno)
			}
		}
	}
}

func TestP152AllRising(t *testing.T) {
	next, l := noise(), keys()
	for range 100 {
		for i := range l {
			k := next(i + 1)
			l[i], l[k] = l[k], l[i]
		}
		s, m := slot.New(), newModel()
		for i, key := range l {
			v := val(uint64(i), api.Label(i%3))
			put(t, s, pair{key, v})
			m.put(key, v)
			if i%5 == 2 {
				settle(t, s)
				m.settle()
			}
		}
		hold(t, s, m, l)
		if !slices.IsSortedFunc(all(s), func(a, b pair) int { return order(a.key, b.key) }) {
			t.Fatalf("%v do not rise", all(s))
		}
	}
}

// TestP152NoughtOfALabelIsThere has noughts, of which just the one of bottom is as none.
func TestP152NoughtOfALabelIsThere(t *testing.T) {
	for _, a := range labels() {
		for _, settled := range []bool{false, true} {
			want := []pair{{api.Word{7}, val(0, a)}}
			if a == api.Bottom {
				want = nil
			}
			s := with(t, settled, pair{api.Word{7}, val(0, a)})
			if g := all(s); !slices.Equal(g, want) || s.Len() != len(want) {
				t.Errorf("0 of %x: All tells %v, Len %d", a, g, s.Len())
			}
			put(t, s, pair{api.Word{7}, nought})
			if g := all(s); len(g) != 0 || s.Len() != 0 {
				t.Errorf("0 of %x, made 0 of bottom: All tells %v, Len %d", a, g, s.Len())
			}
		}
	}
}

func TestP152AllLeftAndAgain(t *testing.T) {
	want := []pair{{api.Word{1}, val(4, 0)}, {api.Word{2}, val(0, 3)}, {api.Word{9}, val(1, 1)}, {api.Word{0, 1}, val(2, 2)}}
	for _, settled := range []bool{false, true} {
		each := with(t, settled, want...).All()
		for stop := 1; stop <= len(want); stop++ {
			var got []pair
			each(func(key api.Word, v api.Val) bool { got = append(got, pair{key, v}); return len(got) < stop })
			if !slices.Equal(got, want[:stop]) {
				t.Errorf("left at %d, it has told %v", stop, got)
			}
		}
		pairs := 0
		for key, v := range each {
			if want[pairs/len(want)] != (pair{key, v}) {
				t.Errorf("gone over again, it tells %v, %v", key, v)
			}
			for range each {
				pairs++
			}
		}
		if pairs != len(want)*len(want) {
			t.Errorf("gone over within itself, it tells %d", pairs)
		}
	}
}

// TestP152AllIsAsItWasAskedFor changes storage behind the call, and while it is gone over.
func TestP152AllIsAsItWasAskedFor(t *testing.T) {
	want := []pair{{api.Word{1}, val(4, 0)}, {api.Word{2}, val(5, 3)}, {api.Word{3}, val(6, 1)}}
	for _, settled := range []bool{false, true} {
		s := with(t, settled, want...)
		each := s.All()
		put(t, s, pair{api.Word{1}, val(9, 9)}, pair{api.Word{}, val(1, 1)})
		for range 2 {
			var got []pair
			for key, v := range each {
				got = append(got, pair{key, v})
				put(t, s, pair{api.Word{2}, nought}, pair{api.Word{3}, val(7, 7)}, pair{api.Word{4}, val(8, 8)})
				settle(t, s)
				put(t, s, pair{api.Word{3}, nought})
			}
			if !slices.Equal(got, want) {
				t.Errorf("All tells %v", got)
			}
		}
		if g := all(s); !slices.Equal(g, []pair{{api.Word{}, val(1, 1)}, {api.Word{1}, val(9, 9)}, {api.Word{4}, val(8, 8)}}) {
			t.Errorf("behind it, All tells %v", g)
		}
	}
}

func TestP152OfNone(t *testing.T) {
	for name, s := range nones() {
		each := s.All()
		if each == nil {
			t.Fatalf("%s: no iterator", name)
		}
		for key, v := range each {
			t.Errorf("%s: All tells %v, %v", name, key, v)
		}
		if n, c := s.Len(), s.Copy(); n != 0 || c != nil {
			t.Errorf("%s: Len, Copy = %d, %v", name, n, c)
		}
	}
}

func TestP152CopyGoesOnApart(t *testing.T) {
	l := keys()
	for _, settled := range []bool{false, true} {
		for _, swapped := range []bool{false, true} {
			s := with(t, settled, pair{l[0], val(5, 1)}, pair{l[1], val(6, 0)}, pair{l[2], val(0, 2)})
			put(t, s, pair{l[1], val(7, 0)}, pair{l[3], val(8, 3)})
			still := newModel()
			still.put(l[0], val(5, 1))
			still.put(l[1], val(6, 0))
			still.put(l[2], val(0, 2))
			if settled {
				still.settle()
			}
			still.put(l[1], val(7, 0))
			still.put(l[3], val(8, 3))
			c, m := s.Copy(), still.copy()
			hold(t, c, still, l)
			if swapped {
				s, c = c, s
			}
			for i, key := range l {
				put(t, c, pair{key, val(uint64(i%3), 4)})
				m.put(key, val(uint64(i%3), 4))
			}
			hold(t, c, m, l)
			hold(t, s, still, l)
			settle(t, c)
			m.settle()
			put(t, c, pair{l[0], nought}, pair{l[5], val(1, 0)})
			m.put(l[0], nought)
			m.put(l[5], val(1, 0))
			hold(t, c, m, l)
			hold(t, s, still, l)
			settle(t, s)
			still.settle()
			hold(t, c, m, l)
			hold(t, s, still, l)
		}
	}
	if c := slot.New().Copy(); c == nil || c.Put(l[0], val(1, 1)) != api.OK || c.Get(l[0]) != val(1, 1) {
		t.Error("a copy of storage without keys is none")
	}
}

func TestP152AlikeOfEachTwoValues(t *testing.T) {
	key := api.Word{7}
	for _, v := range values() {
		for _, x := range values() {
			for _, up := range labels() {
				want := same(v, x, up)
				for _, settled := range []bool{false, true} {
					a, b := with(t, settled, pair{key, v}), with(t, settled, pair{key, x})
					if g := slot.Alike(a, b, up); g != want {
						t.Fatalf("Alike(%v, %v, %x) = %v", v, x, up, g)
					}
				}
				a, b := with(t, true, pair{key, v}), with(t, true, pair{key, x})
				put(t, a, pair{key, val(1, 0)})
				put(t, b, pair{key, val(1, 0)})
				if g := slot.Alike(a, b, up); g != want {
					t.Fatalf("where these were: Alike(%v, %v, %x) = %v", v, x, up, g)
				}
			}
		}
	}
}

// TestP152AlikeOfOneKeyMore has a key that just one of two has; of the other one it is nought of bottom.
func TestP152AlikeOfOneKeyMore(t *testing.T) {
	common := pair{api.Word{1}, val(5, 1)}
	for _, key := range keys() {
		if key == common.key {
			continue
		}
		for _, v := range values() {
			for _, up := range labels() {
				want := same(v, nought, up)
				a := with(t, false, common)
				b := with(t, false, common, pair{key, v})
				if g, h := slot.Alike(a, b, up), slot.Alike(b, a, up); g != want || h != want {
					t.Fatalf("with %v of %v more, up to %x: %v, the other way round %v", v, key, up, g, h)
				}
				a, b = with(t, true, common), with(t, true, common, pair{key, v})
				put(t, b, pair{key, nought})
				if g, h := slot.Alike(a, b, up), slot.Alike(b, a, up); g != want || h != want {
					t.Fatalf("where %v of %v was more, up to %x: %v, the other way round %v", v, key, up, g, h)
				}
			}
		}
	}
}

func TestP152AlikeOfWhatWas(t *testing.T) {
	p := pair{api.Word{7}, val(5, 2)}
	now, was := with(t, false, p), with(t, true, p)
	for _, up := range labels() {
		if slot.Alike(now, was, up) || slot.Alike(was, now, up) {
			t.Errorf("up to %x, what was is not looked at", up)
		}
	}
	settle(t, now)
	for _, up := range labels() {
		if !slot.Alike(now, was, up) || !slot.Alike(now, now, up) || !slot.Alike(now, now.Copy(), up) {
			t.Errorf("up to %x, the same are not alike", up)
		}
	}
	back := with(t, true)
	put(t, back, p, pair{p.key, nought})
	if !slot.Alike(back, slot.New(), api.Top) || !slot.Alike(slot.New(), back, api.Top) {
		t.Error("what was put and taken away counts")
	}
}

func TestP152AlikeOfNone(t *testing.T) {
	for _, up := range labels() {
		for name, a := range nones() {
			for other, b := range nones() {
				if !slot.Alike(a, b, up) {
					t.Errorf("%s is not like %s", name, other)
				}
			}
			for _, s := range []*slot.Slots{slot.New(), with(t, false, pair{api.Word{7}, val(5, 4)}), with(t, true, pair{api.Word{7}, val(0, 4)})} {
				if slot.Alike(a, s, up) || slot.Alike(s, a, up) {
					t.Errorf("%s is like storage of %d keys", name, s.Len())
				}
			}
		}
	}
}

func TestP153NothingElseChanges(t *testing.T) {
	l := keys()
	for _, settled := range []bool{false, true} {
		for i, changed := range l {
			for _, v := range []api.Val{nought, val(0, 1), val(77, 0), val(77, api.Top)} {
				s, m := slot.New(), newModel()
				for k, key := range l {
					put(t, s, pair{key, val(uint64(k), api.Label(i))})
					m.put(key, val(uint64(k), api.Label(i)))
				}
				if settled {
					settle(t, s)
					m.settle()
				}
				put(t, s, pair{changed, v})
				m.put(changed, v)
				hold(t, s, m, l)
			}
		}
	}
}

func TestP153OrderDoesNotCount(t *testing.T) {
	next, l := noise(), keys()
	var pairs []pair
	for i, key := range l {
		pairs = append(pairs, pair{key, val(uint64(i%4), api.Label(i%3))})
	}
	for _, settled := range []bool{false, true} {
		first := with(t, settled, pairs...)
		for range 50 {
			for i := range pairs {
				k := next(i + 1)
				pairs[i], pairs[k] = pairs[k], pairs[i]
			}
			again := with(t, settled, pairs...)
			for _, up := range labels() {
				if !slot.Alike(first, again, up) || !slot.Alike(again, first, up) {
					t.Fatalf("put as %v, it is not alike up to %x", pairs, up)
				}
			}
			if !slices.Equal(all(first), all(again)) || first.Len() != again.Len() {
				t.Fatalf("put as %v, it tells %v", pairs, all(again))
			}
		}
	}
}

// TestWalks does what may be done to storage in many orders, and holds it against the model.
func TestWalks(t *testing.T) {
	next, l, v := noise(), keys()[:7], values()
	for range 60 {
		s, m := []*slot.Slots{slot.New(), slot.New()}, []model{newModel(), newModel()}
		for range 120 {
			i := next(len(s))
			switch next(12) {
			case 0:
				settle(t, s[i])
				m[i].settle()
			case 1:
				k := next(len(s))
				s[k], m[k] = s[i].Copy(), m[i].copy()
			case 2, 3:
				key := l[next(len(l))]
				put(t, s[i], pair{key, nought})
				m[i].put(key, nought)
			default:
				key, x := l[next(len(l))], v[next(len(v))]
				put(t, s[i], pair{key, x})
				m[i].put(key, x)
			}
			for k := range s {
				hold(t, s[k], m[k], l)
			}
			for _, up := range labels() {
				if g, want := slot.Alike(s[0], s[1], up), m[0].alike(m[1], up, l); g != want {
					t.Fatalf("Alike up to %x = %v", up, g)
				}
			}
		}
	}
}

// TestOfMany has many keys, and as many copies of them as a world has marks, each with a change of its own.
func TestOfMany(t *testing.T) {
	const many, marks = 100000, 1100
	s := slot.New()
	for i := range uint64(many) {
		put(t, s, pair{api.Word{0, i * 0x9e3779b97f4a7c15}, val(i+1, 0)})
		if n := s.Len(); n != int(i)+1 {
			t.Fatalf("Len = %d behind %d", n, i+1)
		}
	}
	settle(t, s)
	var copies []*slot.Slots
	for i := range uint64(marks) {
		copies = append(copies, s.Copy())
		put(t, s, pair{api.Word{i + 1}, val(i, 1)})
	}
	for i, c := range copies {
		if n := c.Len(); n != many+i || c.Get(api.Word{uint64(i) + 1}) != nought {
			t.Fatalf("copy %d has %d keys", i, n)
		}
	}
	if n := len(all(s)); n != many+marks || s.Len() != n {
		t.Errorf("All tells %d, Len is %d", n, s.Len())
	}
	if c := copies[marks-1]; slot.Alike(s, c, api.Top) || !slot.Alike(c, c.Copy(), api.Top) {
		t.Error("Alike of many is not right")
	}
}
