package warm_test

import (
	"bytes"
	"cmp"
	"slices"
	"testing"

	"excise/api"
	"excise/warm"
)

// noise tells numbers without a pattern, the same ones each time.
func noise() func(below int) int {
	n := uint64(0x9e3779b97f4a7c15)
	return func(below int) int {
		n ^= n << 13
		n ^= n >> 7
		n ^= n << 17
		return int((n >> 20) % uint64(below))
	}
}

// addresses are small ones and such at the edges, in no order.
func addresses() []api.Address {
	full := api.Address(bytes.Repeat([]byte{0xff}, 20))
	return []api.Address{{19: 7}, {}, full, {1}, {19: 1}, {18: 1}, {0: 0xff}, {0: 0x80}, {18: 1, 19: 1}, {9: 3}, {19: 0xff}, {0: 1, 19: 7}}
}

// keys are small ones and such at the edges, with the same numbers at other places, in no order.
func keys() []api.Word {
	full := uint64(1<<64 - 1)
	return []api.Word{{7}, {}, {full, full, full, full}, {0, 0, 0, 1}, {1}, {0, 1}, {255}, {0, 0, 1}, {256}, {full}, {0, 0, 0, 1 << 63}, {5, 1}, {1, 5}}
}

// group is what All tells of an address.
type group struct {
	address api.Address
	keys    []api.Word
}

// all is what All tells.
func all(w *warm.Warm) []group {
	var l []group
	for x, keys := range w.All() {
		l = append(l, group{x, keys})
	}
	return l
}

// sameGroups tells whether two lists of groups are the same.
func sameGroups(a, b []group) bool {
	return slices.EqualFunc(a, b, func(g, h group) bool { return g.address == h.address && slices.Equal(g.keys, h.keys) })
}

// order is that of words, by their highest numbers first.
func order(a, b api.Word) int {
	return cmp.Or(cmp.Compare(a[3], b[3]), cmp.Compare(a[2], b[2]), cmp.Compare(a[1], b[1]), cmp.Compare(a[0], b[0]))
}

// model is a set as the document tells it: of each address whether it was touched, and which keys of it were.
type model map[api.Address]*part

// part is what was touched of an address.
type part struct {
	itself bool
	keys   []api.Word
}

// of is the part of an address, which is there from then on.
func (m model) of(x api.Address) *part {
	if m[x] == nil {
		m[x] = &part{}
	}
	return m[x]
}

// touch touches an address: was it cold?
func (m model) touch(x api.Address) bool {
	was := m.of(x).itself
	m.of(x).itself = true
	return !was
}

// touchSlot touches a slot: was it cold?
func (m model) touchSlot(x api.Address, key api.Word) bool {
	if slices.Contains(m.of(x).keys, key) {
		return false
	}
	m.of(x).keys = append(m.of(x).keys, key)
	return true
}

// copy is another one of the same.
func (m model) copy() model {
	c := model{}
	for x, p := range m {
		c[x] = &part{p.itself, slices.Clone(p.keys)}
	}
	return c
}

// groups are what All is to tell.
func (m model) groups() []group {
	var l []group
	for x, p := range m {
		if p.itself || len(p.keys) != 0 {
			l = append(l, group{x, slices.SortedFunc(slices.Values(p.keys), order)})
		}
	}
	slices.SortFunc(l, func(a, b group) int { return bytes.Compare(a.address[:], b.address[:]) })
	return l
}

// count tells how many addresses and slots there are.
func (m model) count() (addresses, slots int) {
	for _, p := range m {
		if p.itself {
			addresses++
		}
		slots += len(p.keys)
	}
	return addresses, slots
}

// same tells whether two models are, of the addresses and keys that there may be.
func (m model) same(n model) bool {
	for _, x := range addresses() {
		if m.of(x).itself != n.of(x).itself {
			return false
		}
		for _, key := range keys() {
			if slices.Contains(m.of(x).keys, key) != slices.Contains(n.of(x).keys, key) {
				return false
			}
		}
	}
	return true
}

// hold looks whether a set is as the model, of the addresses and keys that there may be.
func hold(t *testing.T, w *warm.Warm, m model) {
	t.Helper()
	for _, x := range addresses() {
		if g := w.Has(x); g != m.of(x).itself {
			t.Fatalf("Has(%x) = %v", x, g)
		}
		for _, key := range keys() {
			if g := w.HasSlot(x, key); g != slices.Contains(m.of(x).keys, key) {
				t.Fatalf("HasSlot(%x, %v) = %v", x, key, g)
			}
		}
	}
	addresses, slots := w.Len()
	if n, k := m.count(); addresses != n || slots != k {
		t.Fatalf("Len = %d, %d, want %d, %d", addresses, slots, n, k)
	}
	if g, want := all(w), m.groups(); !sameGroups(g, want) {
		t.Fatalf("All tells %v, want %v", g, want)
	}
}

// touch touches an address in a set and its model, which must tell the same.
func touch(t *testing.T, w *warm.Warm, m model, x api.Address) {
	t.Helper()
	want := m.touch(x)
	if cold, errno := w.Touch(x); cold != want || errno != api.OK {
		t.Fatalf("Touch(%x) = %v, %v, want %v", x, cold, errno, want)
	}
}

// touchSlot touches a slot in a set and its model, which must tell the same.
func touchSlot(t *testing.T, w *warm.Warm, m model, x api.Address, key api.Word) {
	t.Helper()
	want := m.touchSlot(x, key)
	if cold, errno := w.TouchSlot(x, key); cold != want || errno != api.OK {
		t.Fatalf("TouchSlot(%x, %v) = %v, %v, want %v", x, key, cold, errno, want)
	}
}

// with is a set of some groups, whose addresses were touched or not, and its model.
func with(t *testing.T, themselves bool, l ...group) (*warm.Warm, model) {
	t.Helper()
	w, m := warm.New(), model{}
	for _, g := range l {
		if themselves {
			touch(t, w, m, g.address)
		}
		for _, key := range g.keys {
			touchSlot(t, w, m, g.address, key)
		}
	}
	return w, m
}

// sameBothWays tells whether two are the same, which must be so either way round.
func sameBothWays(t *testing.T, a, b *warm.Warm) bool {
	t.Helper()
	g := warm.Same(a, b)
	if h := warm.Same(b, a); h != g {
		t.Fatalf("Same is %v, the other way round %v", g, h)
	}
	return g
}

// nones are what is no set.
func nones() map[string]*warm.Warm {
	return map[string]*warm.Warm{"nil": nil, "zero": new(warm.Warm)}
}
