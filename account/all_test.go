package account_test

import (
	"bytes"
	"testing"

	"excise/account"
	"excise/api"
)

func TestP162Settle(t *testing.T) {
	l, key := addresses(), api.Word{7}
	a, m := account.New(), model{}
	for i, x := range l {
		store(t, a, x, key, val(uint64(i), 1))
		m.of(x).now[key] = val(uint64(i), 1)
	}
	held := a.Slots(l[3])
	for round := range uint64(3) {
		hold(t, a, m, true)
		settle(t, a)
		m.settle()
		hold(t, a, m, true)
		if w := held.Was(key); w != held.Get(key) {
			t.Errorf("storage that was told is not settled: %v, which was %v", held.Get(key), w)
		}
		for i, x := range l[round:] {
			v := val(uint64(i)%3*round, api.Label(round))
			store(t, a, x, key, v)
			m.of(x).now[key] = v
		}
	}
	a = account.New()
	settle(t, a)
	hold(t, a, model{}, true)
}

func TestP162AllTellsWhatIsThere(t *testing.T) {
	x := api.Address{19: 7}
	for _, y := range bodies() {
		a := with(t, x, y)
		if g, there := all(a), y.Balance != nought || y.Nonce != 0 || len(y.Code) != 0; there != (len(g) == 1) || len(g) > 1 {
			t.Errorf("of %v, All tells %v", y, g)
		}
	}
	for _, v := range values() {
		for _, settled := range []bool{false, true} {
			a := storing(t, settled, x, v)
			if g := all(a); (v != nought) != samePairs(g, []pair{{x, api.Account{}}}) || v == nought && len(g) != 0 {
				t.Errorf("of one that stores %v, All tells %v", v, g)
			}
			store(t, a, x, api.Word{7}, nought)
			if g := all(a); len(g) != 0 {
				t.Errorf("of one that stored %v, All tells %v", v, g)
			}
		}
	}
	a := account.New()
	a.Slots(x)
	a.Get(x)
	a.Dead(x)
	if g := all(a); len(g) != 0 {
		t.Errorf("of one that was looked at, All tells %v", g)
	}
}

func TestP162AllRising(t *testing.T) {
	next, l := noise(), addresses()
	for range 100 {
		for i := range l {
			k := next(i + 1)
			l[i], l[k] = l[k], l[i]
		}
		a, m := account.New(), model{}
		for i, x := range l {
			if i%3 != 0 {
				y := api.Account{Nonce: uint64(i)}
				put(t, a, x, y)
				m.of(x).Account = y
			}
			if i%2 == 0 {
				store(t, a, x, api.Word{7}, val(uint64(i), 1))
				m.of(x).now[api.Word{7}] = val(uint64(i), 1)
			}
		}
		hold(t, a, m, false)
		for i, pairs := 1, all(a); i < len(pairs); i++ {
			if bytes.Compare(pairs[i-1].address[:], pairs[i].address[:]) >= 0 {
				t.Fatalf("%v do not rise", pairs)
			}
		}
	}
}

func TestP162AllLeftAndAgain(t *testing.T) {
	want := []pair{{api.Address{}, api.Account{Nonce: 1}}, {api.Address{19: 9}, api.Account{}}, {api.Address{18: 1}, api.Account{Balance: val(0, 1), Code: []byte{1}}}, {api.Address{0: 1}, api.Account{Balance: val(5, 0)}}}
	a := account.New()
	for _, p := range want {
		put(t, a, p.address, p.account)
	}
	store(t, a, want[1].address, api.Word{7}, val(0, 1))
	each := a.All()
	for stop := 1; stop <= len(want); stop++ {
		var got []pair
		each(func(x api.Address, y api.Account) bool { got = append(got, pair{x, y}); return len(got) < stop })
		if !samePairs(got, want[:stop]) {
			t.Errorf("left at %d, it has told %v", stop, got)
		}
	}
	pairs := 0
	for x, y := range each {
		if p := want[pairs/len(want)]; p.address != x || !samePart(p.account, y) {
			t.Errorf("gone over again, it tells %x, %v", x, y)
		}
		for range each {
			pairs++
		}
	}
	if pairs != len(want)*len(want) {
		t.Errorf("gone over within itself, it tells %d", pairs)
	}
}

// TestP162AllIsAsItWasAskedFor changes accounts behind the call, and while they are gone over.
func TestP162AllIsAsItWasAskedFor(t *testing.T) {
	one, two, three, four := api.Address{19: 1}, api.Address{19: 2}, api.Address{19: 3}, api.Address{19: 4}
	want := []pair{{one, api.Account{Nonce: 1}}, {two, api.Account{}}, {three, api.Account{Balance: val(5, 1), Code: []byte{1, 2}}}}
	a := with(t, one, want[0].account)
	store(t, a, two, api.Word{7}, val(1, 1))
	put(t, a, three, want[2].account)
	a.Slots(four)
	each := a.All()
	put(t, a, one, api.Account{Nonce: 2})
	store(t, a, two, api.Word{7}, nought)
	store(t, a, four, api.Word{7}, val(1, 1))
	for range 2 {
		var got []pair
		for x, y := range each {
			got = append(got, pair{x, y})
			drop(t, a, two)
			put(t, a, three, api.Account{Nonce: 7})
			put(t, a, api.Address{}, api.Account{Nonce: 8})
			settle(t, a)
		}
		if !samePairs(got, want) {
			t.Errorf("All tells %v", got)
		}
	}
	if g := all(a); !samePairs(g, []pair{{api.Address{}, api.Account{Nonce: 8}}, {one, api.Account{Nonce: 2}}, {three, api.Account{Nonce: 7}}, {four, api.Account{}}}) {
		t.Errorf("behind it, All tells %v", g)
	}
}

func TestP162OfNone(t *testing.T) {
	for name, a := range nones() {
		each := a.All()
		if each == nil {
			t.Fatalf("%s: no iterator", name)
		}
		for x, y := range each {
			t.Errorf("%s: All tells %x, %v", name, x, y)
		}
		if c := a.Copy(); c != nil {
			t.Errorf("%s: Copy = %v", name, c)
		}
	}
}

func TestP162CopyGoesOnApart(t *testing.T) {
	l := addresses()
	for _, settled := range []bool{false, true} {
		for _, swapped := range []bool{false, true} {
			a, still := account.New(), model{}
			for i, x := range l[:6] {
				y := api.Account{Balance: val(uint64(i), 1), Nonce: uint64(i), Code: []byte{byte(i)}}
				put(t, a, x, y)
				still.of(x).Account = y
				store(t, a, x, api.Word{7}, val(uint64(i+1), 2))
				still.of(x).now[api.Word{7}] = val(uint64(i+1), 2)
			}
			store(t, a, l[7], api.Word{7}, val(1, 1))
			still.of(l[7]).now[api.Word{7}] = val(1, 1)
			if settled {
				settle(t, a)
				still.settle()
			}
			held := a.Slots(l[0])
			c, m := a.Copy(), still.copy()
			if held.Put(api.Word{}, val(3, 3)) != api.OK {
				t.Error("storage that was told takes nothing")
			}
			hold(t, c, m, true)
			still.of(l[0]).now[api.Word{}] = val(3, 3)
			hold(t, a, still, true)
			if swapped {
				a, c, still, m = c, a, m, still
			}
			for i, x := range l[1:9] {
				y := api.Account{Balance: val(uint64(i), 4)}
				put(t, c, x, y)
				m.of(x).Account = y
				store(t, c, x, api.Word{7}, val(uint64(i%3), 4))
				m.of(x).now[api.Word{7}] = val(uint64(i%3), 4)
			}
			drop(t, c, l[2])
			delete(m, l[2])
			hold(t, c, m, true)
			hold(t, a, still, true)
			settle(t, c)
			m.settle()
			hold(t, c, m, true)
			hold(t, a, still, true)
		}
	}
	if c := account.New().Copy(); c == nil || c.Put(l[0], api.Account{Nonce: 1}) != api.OK || c.Get(l[0]).Nonce != 1 {
		t.Error("a copy of accounts of which none was made is none")
	}
}
