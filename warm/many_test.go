package warm_test

import (
	"slices"
	"testing"

	"excise/api"
	"excise/warm"
)

// key is one of many keys, without a pattern.
func key(i int) api.Word { return api.Word{0, uint64(i) * 0x9e3779b97f4a7c15} }

// address is one of many addresses, rising.
func address(i int) api.Address { return api.Address{17: byte(i >> 16), 18: byte(i >> 8), 19: byte(i)} }

// count looks how many addresses and slots a set has.
func count(t *testing.T, w *warm.Warm, addresses, slots int) {
	t.Helper()
	if n, k := w.Len(); n != addresses || k != slots {
		t.Fatalf("Len = %d, %d, want %d, %d", n, k, addresses, slots)
	}
}

// TestOfMany has many slots, and as many copies of them as a world has marks, each with touches of its own.
func TestOfMany(t *testing.T) {
	const many, marks, more = 100000, 1100, 40
	x, w := api.Address{19: 7}, warm.New()
	for i := range many {
		if cold, errno := w.TouchSlot(x, key(i)); !cold || errno != api.OK {
			t.Fatalf("TouchSlot of %d = %v, %v", i, cold, errno)
		}
	}
	count(t, w, 0, many)
	var copies []*warm.Warm
	for i := range marks {
		copies = append(copies, w.Copy())
		for k := range more {
			w.Touch(address(i*more + k))
			w.TouchSlot(x, key(many+i*more+k))
		}
	}
	for i, c := range copies {
		count(t, c, i*more, many+i*more)
		if c.Has(address(i*more)) || c.HasSlot(x, key(many+i*more)) {
			t.Fatalf("copy %d has what was touched behind it", i)
		}
		if i > 0 && !(c.Has(address(i*more-1)) && c.HasSlot(x, key(many+i*more-1)) && c.HasSlot(x, key(0))) {
			t.Fatalf("copy %d lacks what was touched ahead of it", i)
		}
	}
	count(t, w, marks*more, many+marks*more)
	if c := copies[marks-1]; warm.Same(w, c) || !warm.Same(c, c.Copy()) {
		t.Error("Same of many is not right")
	}
}

// TestBackAndAgain goes on from the same copy again and again, each time in another way.
func TestBackAndAgain(t *testing.T) {
	x := api.Address{19: 7}
	for many := range 200 {
		w, m := warm.New(), model{}
		for i := range many {
			touchSlot(t, w, m, x, key(i))
			touch(t, w, m, address(i))
		}
		for round := range 4 {
			c, n := w.Copy(), m.copy()
			for i := range 70 {
				touchSlot(t, c, n, x, key(1000*(round+1)+i))
				touch(t, c, n, address(1000*(round+1)+i))
			}
			if !sameGroups(all(c), n.groups()) {
				t.Fatalf("of %d, in round %d, All tells %v", many, round, all(c))
			}
			count(t, c, many+70, many+70)
		}
		if !sameGroups(all(w), m.groups()) {
			t.Fatalf("of %d, All tells %v", many, all(w))
		}
	}
}

// TestAllOfMany has many addresses with one slot each, and one address with many.
func TestAllOfMany(t *testing.T) {
	const many = 50000
	w := warm.New()
	for i := range many {
		k := (i*7919 + 3) % many
		w.TouchSlot(address(k), key(k))
		w.TouchSlot(address(0), key(k))
	}
	next := 0
	for x, keys := range w.All() {
		if next > 0 && (x != address(next) || len(keys) != 1 || keys[0] != key(next)) {
			t.Fatalf("at %d, All tells %x, %v", next, x, keys)
		}
		if next == 0 && (len(keys) != many || !slices.IsSortedFunc(keys, order)) {
			t.Fatalf("All tells %d keys of %x", len(keys), x)
		}
		next++
	}
	if next != many {
		t.Errorf("All tells %d addresses", next)
	}
}
