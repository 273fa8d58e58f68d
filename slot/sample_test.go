package slot_test

import (
	"cmp"
	"slices"
	"testing"

	"excise/api"
	"excise/slot"
)

// noise tells numbers without a pattern, the same ones each time.
func noise() func(below int) int {
	n := uint64(0x9e3779b97f4a7c15)
	return func(below int) int {
		n ^= n << 13
		n ^= n >> 7
		n ^= n << 17
		return int((n >> 20) % uint64(below))
	}
}

// keys are small ones and such at the edges, with the same numbers at other places, in no order.
func keys() []api.Word {
	full := uint64(1<<64 - 1)
	return []api.Word{
		{7}, {}, {full, full, full, full}, {0, 0, 0, 1}, {1}, {0, 1}, {255}, {0, 0, 1}, {256}, {full}, {0, 0, 0, 1 << 63},
		{5, 1}, {1, 5}, {0, 7}, {0, 0, 0, 7}, {7, 7, 7, 7}, {8, 7, 7, 7}, {7, 8, 7, 7}, {7, 7, 8, 7}, {7, 7, 7, 8}, {full - 1, full, full, full},
	}
}

// labels are few, so that many of them are below one another, and some at the edges.
func labels() []api.Label {
	return []api.Label{api.Bottom, 1, 2, 3, 4, 1 << 63, api.Top &^ 1, api.Top}
}

// values are noughts and other words, each with each label.
func values() []api.Val {
	var l []api.Val
	for _, w := range []api.Word{{}, {5}, {6}, {0, 0, 0, 5}, {1 << 63, 0, 0, 1 << 63}} {
		for _, a := range labels() {
			l = append(l, api.Val{Word: w, Label: a})
		}
	}
	return l
}

// val is a value of a small word.
func val(n uint64, a api.Label) api.Val { return api.Val{Word: api.Word{n}, Label: a} }

// nought is what keys have that were never put.
var nought api.Val

// pair are a key and a value that All tells.
type pair struct {
	key api.Word
	v   api.Val
}

// all are the pairs that All tells.
func all(s *slot.Slots) []pair {
	var l []pair
	for key, v := range s.All() {
		l = append(l, pair{key, v})
	}
	return l
}

// order is that of words, by their highest numbers first.
func order(a, b api.Word) int {
	return cmp.Or(cmp.Compare(a[3], b[3]), cmp.Compare(a[2], b[2]), cmp.Compare(a[1], b[1]), cmp.Compare(a[0], b[0]))
}

// model is storage as the document tells it: of each key a value, and what that was.
type model struct{ now, was map[api.Word]api.Val }

// newModel has no keys.
func newModel() model { return model{map[api.Word]api.Val{}, map[api.Word]api.Val{}} }

// put gives a key a value.
func (m model) put(key api.Word, v api.Val) { m.now[key] = v }

// settle makes all that was as it is.
func (m model) settle() {
	for key, v := range m.now {
		m.was[key] = v
	}
}

// copy is another one of the same.
func (m model) copy() model {
	c := newModel()
	for key, v := range m.now {
		c.now[key] = v
	}
	for key, v := range m.was {
		c.was[key] = v
	}
	return c
}

// pairs are those that All is to tell.
func (m model) pairs() []pair {
	var l []pair
	for key, v := range m.now {
		if v.Word != (api.Word{}) || v.Label != api.Bottom {
			l = append(l, pair{key, v})
		}
	}
	slices.SortFunc(l, func(a, b pair) int { return order(a.key, b.key) })
	return l
}

// same tells whether two values are alike up to a label, as the document says it.
func same(a, b api.Val, up api.Label) bool {
	return a.Label == b.Label && (a.Label&^up != 0 || a.Word == b.Word)
}

// alike tells whether two models are, of the keys that there may be.
func (m model) alike(n model, up api.Label, keys []api.Word) bool {
	for _, key := range keys {
		if !same(m.now[key], n.now[key], up) || !same(m.was[key], n.was[key], up) {
			return false
		}
	}
	return true
}

// hold looks whether storage is as the model, of the keys that there may be.
func hold(t *testing.T, s *slot.Slots, m model, keys []api.Word) {
	t.Helper()
	for _, key := range keys {
		if g := s.Get(key); g != m.now[key] {
			t.Fatalf("Get(%v) = %v, want %v", key, g, m.now[key])
		}
		if g := s.Was(key); g != m.was[key] {
			t.Fatalf("Was(%v) = %v, want %v", key, g, m.was[key])
		}
	}
	want := m.pairs()
	if g := s.Len(); g != len(want) {
		t.Fatalf("Len = %d, want %d", g, len(want))
	}
	if g := all(s); !slices.Equal(g, want) {
		t.Fatalf("All tells %v, want %v", g, want)
	}
}

// put gives keys values, which must be taken.
func put(t *testing.T, s *slot.Slots, l ...pair) {
	t.Helper()
	for _, p := range l {
		if errno := s.Put(p.key, p.v); errno != api.OK {
			t.Fatalf("Put(%v, %v) = %v", p.key, p.v, errno)
		}
	}
}

// settle settles storage, which must be taken.
func settle(t *testing.T, s *slot.Slots) {
	t.Helper()
	if errno := s.Settle(); errno != api.OK {
		t.Fatalf("Settle = %v", errno)
	}
}

// with is new storage of some pairs, settled or not.
func with(t *testing.T, settled bool, l ...pair) *slot.Slots {
	t.Helper()
	s := slot.New()
	put(t, s, l...)
	if settled {
		settle(t, s)
	}
	return s
}

// nones are what is no storage.
func nones() map[string]*slot.Slots {
	return map[string]*slot.Slots{"nil": nil, "zero": new(slot.Slots)}
}
