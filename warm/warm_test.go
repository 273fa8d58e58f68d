package warm_test

import (
	"slices"
	"testing"

	"excise/api"
	"excise/warm"
)

func TestExample(t *testing.T) {
	one, two, three, key := api.Address{19: 1}, api.Address{19: 2}, api.Address{19: 3}, api.Word{5}
	w := warm.New(one)
	if cold, errno := w.Touch(one); cold || errno != api.OK {
		t.Errorf("Touch(1) = %v, %v", cold, errno)
	}
	if cold, errno := w.Touch(two); !cold || errno != api.OK {
		t.Errorf("Touch(2) = %v, %v", cold, errno)
	}
	if cold, errno := w.TouchSlot(three, key); !cold || errno != api.OK {
		t.Errorf("TouchSlot(3, 5) = %v, %v", cold, errno)
	}
	if cold, errno := w.TouchSlot(three, key); cold || errno != api.OK {
		t.Errorf("TouchSlot(3, 5) again = %v, %v", cold, errno)
	}
	addresses, slots := w.Len()
	if w.Has(three) || addresses != 2 || slots != 1 {
		t.Errorf("Has(3) = %v, Len = %d, %d", w.Has(three), addresses, slots)
	}
}

func TestP171New(t *testing.T) {
	hold(t, warm.New(), model{})
	hold(t, warm.New([]api.Address{}...), model{})
	l, m := addresses(), model{}
	for n := range l {
		m.touch(l[n])
		hold(t, warm.New(l[:n+1]...), m)
		hold(t, warm.New(append(slices.Clone(l[:n+1]), l[:n+1]...)...), m)
	}
	hold(t, warm.New(), model{})
}

// TestP171NewKeepsNoList changes the list that was handed in, and looks for changes of it and of the room behind it.
func TestP171NewKeepsNoList(t *testing.T) {
	l := addresses()
	w, m := warm.New(l[:3]...), model{}
	if !slices.Equal(l, addresses()) {
		t.Errorf("what was handed in is changed: %x", l)
	}
	for _, x := range l[:3] {
		m.touch(x)
	}
	l[0], l[1] = l[5], l[6]
	hold(t, w, m)
	touch(t, w, m, addresses()[7])
	if !slices.Equal(l[2:], addresses()[2:]) {
		t.Errorf("what was handed in is changed: %x", l)
	}
}

func TestP171TouchOfEach(t *testing.T) {
	w, m := warm.New(), model{}
	for _, x := range addresses() {
		for range 3 {
			touch(t, w, m, x)
			hold(t, w, m)
		}
	}
}

func TestP171TouchSlotOfEach(t *testing.T) {
	w, m := warm.New(), model{}
	for _, x := range addresses() {
		for _, key := range keys() {
			for range 2 {
				touchSlot(t, w, m, x, key)
			}
		}
		hold(t, w, m)
	}
}

// TestP171Apart has an address and its slots, of which a touch of one warms none of the others.
func TestP171Apart(t *testing.T) {
	for _, x := range addresses() {
		w, m := with(t, true, group{x, nil})
		for _, key := range keys() {
			if w.HasSlot(x, key) {
				t.Errorf("with %x, its slot %v is warm", x, key)
			}
		}
		touchSlot(t, w, m, x, api.Word{})
		touchSlot(t, w, m, x, api.Word{7})
		hold(t, w, m)
		w, m = with(t, false, group{x, keys()})
		if w.Has(x) {
			t.Errorf("with its slots, %x is warm", x)
		}
		touch(t, w, m, x)
		hold(t, w, m)
	}
}

func TestP171OfNone(t *testing.T) {
	if api.ErrNil != 1 || api.OK != 0 {
		t.Errorf("ErrNil %d, OK %d", api.ErrNil, api.OK)
	}
	for name, w := range nones() {
		for range 2 {
			for _, x := range addresses() {
				if cold, errno := w.Touch(x); cold || errno != api.ErrNil {
					t.Errorf("%s: Touch = %v, %v", name, cold, errno)
				}
				for _, key := range keys() {
					if cold, errno := w.TouchSlot(x, key); cold || errno != api.ErrNil {
						t.Errorf("%s: TouchSlot = %v, %v", name, cold, errno)
					}
				}
			}
		}
	}
}

func TestP172OfNone(t *testing.T) {
	for name, w := range nones() {
		for _, x := range addresses() {
			w.Touch(x)
			w.TouchSlot(x, api.Word{7})
			if w.Has(x) || w.HasSlot(x, api.Word{7}) || w.HasSlot(x, api.Word{}) {
				t.Errorf("%s: it has %x", name, x)
			}
		}
		if addresses, slots := w.Len(); addresses != 0 || slots != 0 {
			t.Errorf("%s: Len = %d, %d", name, addresses, slots)
		}
		each := w.All()
		if each == nil {
			t.Fatalf("%s: no iterator", name)
		}
		for x, keys := range each {
			t.Errorf("%s: All tells %x, %v", name, x, keys)
		}
		if w.Copy() != nil {
			t.Errorf("%s: there is a copy", name)
		}
	}
}

func TestP172AllRising(t *testing.T) {
	next, l, k := noise(), addresses(), keys()
	for range 100 {
		w, m := warm.New(), model{}
		for range 60 {
			if next(3) == 0 {
				touch(t, w, m, l[next(len(l))])
			} else {
				touchSlot(t, w, m, l[next(len(l))], k[next(len(k))])
			}
		}
		hold(t, w, m)
	}
	w, _ := with(t, false, group{l[0], []api.Word{{0, 1}, {2}, {1}}}, group{l[4], nil})
	w.Touch(l[2])
	want := []group{{l[0], []api.Word{{1}, {2}, {0, 1}}}, {l[2], nil}}
	if g := all(w); !sameGroups(g, want) {
		t.Errorf("All tells %v", g)
	}
}

func TestP172AllLeftAndAgain(t *testing.T) {
	want := []group{{api.Address{19: 1}, []api.Word{{1}, {2}}}, {api.Address{19: 2}, nil}, {api.Address{18: 1}, []api.Word{{}}}, {api.Address{1}, []api.Word{{3}, {0, 1}, {0, 0, 0, 1}}}}
	w, _ := with(t, true, want...)
	each := w.All()
	for stop := 1; stop <= len(want); stop++ {
		var got []group
		each(func(x api.Address, keys []api.Word) bool { got = append(got, group{x, keys}); return len(got) < stop })
		if !sameGroups(got, want[:stop]) {
			t.Errorf("left at %d, it has told %v", stop, got)
		}
	}
	groups := 0
	for x, keys := range each {
		if g := want[groups/len(want)]; g.address != x || !slices.Equal(g.keys, keys) {
			t.Errorf("gone over again, it tells %x, %v", x, keys)
		}
		for range each {
			groups++
		}
	}
	if groups != len(want)*len(want) {
		t.Errorf("gone over within itself, it tells %d", groups)
	}
}

// TestP172AllIsAsItWasAskedFor touches behind the call, and while it is gone over.
func TestP172AllIsAsItWasAskedFor(t *testing.T) {
	l := addresses()
	want := []group{{l[4], []api.Word{{1}, {3}}}, {l[0], nil}, {l[2], []api.Word{{5}}}}
	w, m := with(t, true, want...)
	each := w.All()
	touch(t, w, m, l[1])
	touchSlot(t, w, m, l[4], api.Word{2})
	for i := range 2 {
		var got []group
		for x, keys := range each {
			got = append(got, group{x, keys})
			touch(t, w, m, l[5+i])
			touchSlot(t, w, m, l[0], api.Word{uint64(i)})
			touchSlot(t, w, m, l[2], api.Word{uint64(i)})
		}
		if !sameGroups(got, want) {
			t.Errorf("All tells %v", got)
		}
	}
	hold(t, w, m)
}

// TestP172KeysAreNotShared changes keys that were told, and the room behind them.
func TestP172KeysAreNotShared(t *testing.T) {
	x := api.Address{19: 7}
	w, m := with(t, true, group{x, []api.Word{{1}, {2}, {3}}}, group{api.Address{19: 8}, []api.Word{{4}}})
	each := w.All()
	for range 3 {
		for x, keys := range each {
			if want := m.of(x).keys; !slices.Equal(keys, want) {
				t.Errorf("All tells %v of %x", keys, x)
			}
			clear(keys[:cap(keys)])
		}
	}
	hold(t, w, m)
}

func TestP172CopyGoesOnApart(t *testing.T) {
	l, k := addresses(), keys()
	for _, swapped := range []bool{false, true} {
		for n := range len(l) {
			w, still := with(t, true, group{l[n], k[:n+1]}, group{l[(n+1)%len(l)], k[n:]})
			c, m := w.Copy(), still.copy()
			hold(t, c, still)
			if !sameBothWays(t, w, c) || !warm.Same(c, c) {
				t.Errorf("a copy is not the same")
			}
			if swapped {
				w, c = c, w
			}
			for _, x := range l {
				touch(t, c, m, x)
				for _, key := range k {
					touchSlot(t, c, m, x, key)
				}
			}
			hold(t, c, m)
			hold(t, w, still)
			touch(t, w, still, l[(n+5)%len(l)])
			touchSlot(t, w, still, l[(n+6)%len(l)], k[n])
			hold(t, c, m)
			hold(t, w, still)
		}
	}
	c := warm.New().Copy()
	if c == nil {
		t.Fatal("a copy of an empty set is none")
	}
	hold(t, c, model{})
	touch(t, c, model{}, l[0])
}

// TestP172SameOfEachTwo has sets of an address, its slots, and others of the same key, or of the same address.
func TestP172SameOfEachTwo(t *testing.T) {
	x, y, key, other := api.Address{19: 7}, api.Address{19: 8}, api.Word{7}, api.Word{0, 7}
	parts := []func(w *warm.Warm, m model){
		func(w *warm.Warm, m model) { w.Touch(x); m.touch(x) },
		func(w *warm.Warm, m model) { w.Touch(y); m.touch(y) },
		func(w *warm.Warm, m model) { w.TouchSlot(x, key); m.touchSlot(x, key) },
		func(w *warm.Warm, m model) { w.TouchSlot(x, other); m.touchSlot(x, other) },
		func(w *warm.Warm, m model) { w.TouchSlot(y, key); m.touchSlot(y, key) },
		func(w *warm.Warm, m model) { w.TouchSlot(x, api.Word{}); m.touchSlot(x, api.Word{}) },
	}
	of := func(set int) (*warm.Warm, model) {
		w, m := warm.New(), model{}
		for i, p := range parts {
			if set>>i&1 != 0 {
				p(w, m)
			}
		}
		return w, m
	}
	for i := range 1 << len(parts) {
		a, m := of(i)
		for k := range 1 << len(parts) {
			b, _ := of(k)
			if g := warm.Same(a, b); g != (i == k) {
				t.Fatalf("Same of %v and %v = %v", all(a), all(b), g)
			}
		}
		hold(t, a, m)
	}
}

func TestP172SameOfNone(t *testing.T) {
	full, _ := with(t, true, group{api.Address{}, []api.Word{{}}})
	for name, a := range nones() {
		for other, b := range nones() {
			if !warm.Same(a, b) {
				t.Errorf("%s is not like %s", name, other)
			}
		}
		for _, w := range []*warm.Warm{warm.New(), warm.New(api.Address{}), full, full.Copy()} {
			if sameBothWays(t, a, w) {
				t.Errorf("%s is like a set of %v", name, all(w))
			}
		}
	}
}

func TestP173ColdOnce(t *testing.T) {
	w, l, k := warm.New(), addresses(), keys()
	for round := range 3 {
		for _, x := range l {
			if cold, errno := w.Touch(x); cold != (round == 0) || errno != api.OK || !w.Has(x) {
				t.Errorf("in round %d, Touch(%x) = %v, %v", round, x, cold, errno)
			}
			for _, key := range k {
				if cold, errno := w.TouchSlot(x, key); cold != (round == 0) || errno != api.OK || !w.HasSlot(x, key) {
					t.Errorf("in round %d, TouchSlot(%x, %v) = %v, %v", round, x, key, cold, errno)
				}
			}
		}
	}
}

func TestP173OrderDoesNotCount(t *testing.T) {
	type touch struct {
		x    api.Address
		key  api.Word
		slot bool
	}
	var touches []touch
	for i, x := range addresses() {
		touches = append(touches, touch{x: x})
		for _, key := range keys()[i:] {
			touches = append(touches, touch{x, key, true})
		}
	}
	next := noise()
	of := func() *warm.Warm {
		w := warm.New()
		for _, c := range touches {
			if c.slot {
				w.TouchSlot(c.x, c.key)
			} else {
				w.Touch(c.x)
			}
			if next(20) == 0 {
				w = w.Copy()
			}
		}
		return w
	}
	first := of()
	for range 50 {
		for i := range touches {
			k := next(i + 1)
			touches[i], touches[k] = touches[k], touches[i]
		}
		again := of()
		if !sameBothWays(t, first, again) || !sameGroups(all(first), all(again)) {
			t.Fatalf("touched as %v, it is not the same", touches)
		}
	}
}

// TestWalks does what may be done to sets in many orders, and holds it against the model.
func TestWalks(t *testing.T) {
	next, l, k := noise(), addresses(), keys()
	for range 40 {
		w, m := []*warm.Warm{warm.New(), warm.New(), warm.New()}, []model{{}, {}, {}}
		for range 200 {
			i := next(len(w))
			switch next(10) {
			case 0:
				n := next(len(w))
				w[n], m[n] = w[i].Copy(), m[i].copy()
			case 1, 2:
				touch(t, w[i], m[i], l[next(len(l))])
			default:
				touchSlot(t, w[i], m[i], l[next(len(l))], k[next(len(k))])
			}
			for n := range w {
				hold(t, w[n], m[n])
				if g, want := sameBothWays(t, w[i], w[n]), m[i].same(m[n]); g != want {
					t.Fatalf("Same of %v and %v = %v", all(w[i]), all(w[n]), g)
				}
			}
		}
	}
}
