package account_test

import (
	"bytes"
	"testing"

	"excise/account"
	"excise/api"
)

func TestExample(t *testing.T) {
	a := account.New()
	one, two, three := api.Address{19: 1}, api.Address{19: 2}, api.Address{19: 3}
	y := api.Account{Balance: val(5, 1), Nonce: 2}
	if errno, g := a.Put(one, y), a.Get(one); errno != api.OK || !samePart(g, y) {
		t.Errorf("Put, Get = %v, %v", errno, g)
	}
	if dead, secret := a.Dead(one); dead || secret {
		t.Errorf("Dead(1) = %v, %v", dead, secret)
	}
	if dead, secret := a.Dead(two); !dead || secret {
		t.Errorf("Dead(2) = %v, %v", dead, secret)
	}
	if errno := a.Put(three, api.Account{Balance: val(0, 4)}); errno != api.OK {
		t.Errorf("Put = %v", errno)
	}
	if dead, secret := a.Dead(three); !dead || !secret {
		t.Errorf("Dead(3) = %v, %v", dead, secret)
	}
	if errno := a.Slots(one).Put(api.Word{7}, val(9, 0)); errno != api.OK {
		t.Errorf("Slots, Put = %v", errno)
	}
	if errno := a.Drop(one); errno != api.OK {
		t.Errorf("Drop = %v", errno)
	}
	if v, g := a.Slots(one).Get(api.Word{7}), a.Get(one); v != nought || !samePart(g, api.Account{}) {
		t.Errorf("Slots, Get, Get = %v, %v", v, g)
	}
}

func TestP161New(t *testing.T) {
	a := account.New()
	hold(t, a, model{}, false)
	hold(t, a, model{}, true)
	put(t, a, api.Address{}, api.Account{Nonce: 1})
	hold(t, account.New(), model{}, true)
}

func TestP161PutOfEach(t *testing.T) {
	x := api.Address{19: 7}
	l := bodies()
	for _, first := range l {
		for _, next := range l {
			a, m := with(t, x, first), model{}
			m.of(x).Account = first
			if g := a.Get(x); !samePart(g, first) {
				t.Fatalf("Get = %v, want %v", g, first)
			}
			put(t, a, x, next)
			m.of(x).Account = next
			if g := all(a); !samePart(a.Get(x), next) || !samePairs(g, m.pairs()) {
				t.Fatalf("%v, made %v, is told as %v", first, next, g)
			}
		}
	}
}

func TestP161PutOfEachAddress(t *testing.T) {
	a, m := account.New(), model{}
	for i, x := range addresses() {
		y := api.Account{Balance: val(uint64(i), api.Label(i)), Nonce: uint64(i / 2), Code: make([]byte, i)}
		put(t, a, x, y)
		m.of(x).Account = y
		hold(t, a, m, false)
	}
	hold(t, a, m, true)
}

func TestP161StorageStays(t *testing.T) {
	x, key := api.Address{19: 7}, api.Word{7}
	for _, y := range []api.Account{{}, {Nonce: 1}, {Balance: val(0, 3)}, {Code: []byte{1}}} {
		for _, settled := range []bool{false, true} {
			a := storing(t, settled, x, val(9, 2))
			was := a.Slots(x).Was(key)
			put(t, a, x, y)
			put(t, a, x, y)
			if g, w := a.Slots(x).Get(key), a.Slots(x).Was(key); g != val(9, 2) || w != was || !samePart(a.Get(x), y) {
				t.Errorf("behind Put of %v, it stores %v, which was %v", y, g, w)
			}
		}
	}
}

func TestP161LongCode(t *testing.T) {
	if api.MaxCode != 49152 || api.ErrLong != 3 || api.ErrNil != 1 || api.OK != 0 {
		t.Errorf("MaxCode %d, ErrLong %d, ErrNil %d, OK %d", api.MaxCode, api.ErrLong, api.ErrNil, api.OK)
	}
	x, other := api.Address{19: 7}, api.Address{19: 8}
	most := api.Account{Balance: val(1, 1), Nonce: 3, Code: bytes.Repeat([]byte{0x5b}, api.MaxCode)}
	a := with(t, x, most)
	if g := a.Get(x); !samePart(g, most) {
		t.Errorf("code of %d bytes is told as %d", api.MaxCode, len(g.Code))
	}
	store(t, a, x, api.Word{7}, val(9, 0))
	for _, many := range []int{api.MaxCode + 1, api.MaxCode + 2, 1 << 20} {
		for _, at := range []api.Address{x, other} {
			if errno := a.Put(at, api.Account{Nonce: 9, Code: make([]byte, many)}); errno != api.ErrLong {
				t.Errorf("Put of %d bytes = %v", many, errno)
			}
		}
		m := model{}
		m.of(x).Account = most
		m.of(x).now[api.Word{7}] = val(9, 0)
		hold(t, a, m, true)
		for name, none := range nones() {
			if errno := none.Put(x, api.Account{Code: make([]byte, many)}); errno != api.ErrNil {
				t.Errorf("%s: Put of %d bytes = %v", name, many, errno)
			}
		}
	}
}

// TestP161CodeIsNotShared changes code behind each call that takes or tells it, and looks for changes of the room behind it.
func TestP161CodeIsNotShared(t *testing.T) {
	x := api.Address{19: 7}
	room := []byte{1, 2, 3, 77, 77, 77}
	a := with(t, x, api.Account{Code: room[:3]})
	want := []byte{1, 2, 3}
	clear(room[:3])
	if g := a.Get(x).Code; !bytes.Equal(g, want) {
		t.Errorf("what was handed in is kept: %v", g)
	}
	if !bytes.Equal(room, []byte{0, 0, 0, 77, 77, 77}) {
		t.Errorf("what was handed in is changed: %v", room)
	}
	g := a.Get(x).Code
	clear(append(g, 5, 5)[:cap(g)])
	clear(g)
	for _, y := range a.All() {
		clear(y.Code)
	}
	each := a.All()
	for range 2 {
		for _, y := range each {
			if !bytes.Equal(y.Code, want) {
				t.Errorf("All tells %v", y.Code)
			}
			clear(y.Code)
		}
	}
	c := a.Copy()
	clear(c.Get(x).Code)
	if !bytes.Equal(a.Get(x).Code, want) || !bytes.Equal(c.Get(x).Code, want) {
		t.Errorf("what was told is kept: %v, the copy's %v", a.Get(x).Code, c.Get(x).Code)
	}
}

func TestP161SlotsAreItsOwn(t *testing.T) {
	a, m := account.New(), model{}
	for i, x := range addresses() {
		s := a.Slots(x)
		if !isNew(s) {
			t.Fatalf("storage of %x is not as new", x)
		}
		hold(t, a, m, false)
		for k, key := range keys() {
			v := val(uint64(i+1), api.Label(k))
			if errno := s.Put(key, v); errno != api.OK {
				t.Fatalf("Put = %v", errno)
			}
			m.of(x).now[key] = v
		}
		hold(t, a, m, true)
		y := api.Account{Nonce: uint64(i)}
		put(t, a, x, y)
		m.of(x).Account = y
		s.Put(api.Word{7}, val(1, 4))
		m.of(x).now[api.Word{7}] = val(1, 4)
		put(t, a, x, api.Account{})
		m.of(x).Account = api.Account{}
		s.Put(api.Word{}, val(2, 5))
		m.of(x).now[api.Word{}] = val(2, 5)
		hold(t, a, m, true)
	}
}

func TestP161Drop(t *testing.T) {
	l := addresses()
	for _, settled := range []bool{false, true} {
		for i, gone := range l {
			a, m := account.New(), model{}
			for k, x := range l {
				y := api.Account{Balance: val(uint64(k), 1), Nonce: uint64(i), Code: []byte{byte(k)}}
				put(t, a, x, y)
				m.of(x).Account = y
				store(t, a, x, api.Word{7}, val(uint64(k+1), 2))
				m.of(x).now[api.Word{7}] = val(uint64(k+1), 2)
			}
			if settled {
				settle(t, a)
				m.settle()
			}
			for range 2 {
				drop(t, a, gone)
				delete(m, gone)
				hold(t, a, m, i%2 == 0)
				hold(t, a, m, true)
			}
			store(t, a, gone, api.Word{}, val(4, 0))
			m.of(gone).now[api.Word{}] = val(4, 0)
			hold(t, a, m, true)
		}
	}
	a := account.New()
	drop(t, a, l[0])
	hold(t, a, model{}, true)
}

// TestP161DropParts puts to storage that was told ahead of Drop; it is the account's no more.
func TestP161DropParts(t *testing.T) {
	x, key := api.Address{19: 7}, api.Word{7}
	a := storing(t, true, x, val(9, 0))
	s := a.Slots(x)
	drop(t, a, x)
	s.Put(key, val(8, 1))
	if g := all(a); len(g) != 0 || !isNew(a.Slots(x)) || !account.Alike(a, account.New(), api.Top) {
		t.Errorf("dropped, %x is told as %v", x, g)
	}
	put(t, a, x, api.Account{Nonce: 1})
	s.Put(key, val(7, 1))
	if !isNew(a.Slots(x)) {
		t.Error("dropped, and made again, it stores what it did")
	}
}

func TestP161Dead(t *testing.T) {
	x := api.Address{19: 7}
	for _, c := range []struct {
		y            api.Account
		dead, secret bool
	}{
		{api.Account{}, true, false},
		{api.Account{Code: []byte{}}, true, false},
		{api.Account{Balance: val(0, 1)}, true, true},
		{api.Account{Balance: val(0, api.Top)}, true, true},
		{api.Account{Balance: val(5, 0)}, false, false},
		{api.Account{Balance: api.Val{Word: api.Word{0, 0, 0, 1 << 63}}}, false, false},
		{api.Account{Balance: val(5, 1<<63)}, false, true},
		{api.Account{Nonce: 1}, false, false},
		{api.Account{Nonce: 1 << 63, Balance: val(0, 1)}, false, false},
		{api.Account{Nonce: 1, Balance: val(5, 1)}, false, false},
		{api.Account{Code: []byte{0}}, false, false},
		{api.Account{Code: []byte{0}, Balance: val(0, 1)}, false, false},
		{api.Account{Code: []byte{0}, Balance: val(5, 1)}, false, false},
	} {
		a := with(t, x, c.y)
		for _, stored := range []api.Val{nought, val(9, 1)} {
			store(t, a, x, api.Word{7}, stored)
			if dead, secret := a.Dead(x); dead != c.dead || secret != c.secret {
				t.Errorf("Dead of %v = %v, %v", c.y, dead, secret)
			}
		}
		if dead, secret := a.Dead(api.Address{19: 8}); !dead || secret {
			t.Errorf("Dead of one that was never made = %v, %v", dead, secret)
		}
		drop(t, a, x)
		if dead, secret := a.Dead(x); !dead || secret {
			t.Errorf("Dead of one that was dropped = %v, %v", dead, secret)
		}
	}
}

func TestP161OfNone(t *testing.T) {
	for name, a := range nones() {
		for range 2 {
			for _, x := range addresses() {
				for _, y := range []api.Account{{}, {Nonce: 1}, {Balance: val(5, 1), Code: []byte{1}}} {
					if errno := a.Put(x, y); errno != api.ErrNil {
						t.Errorf("%s: Put = %v", name, errno)
					}
				}
				if g, s := a.Get(x), a.Slots(x); !samePart(g, api.Account{}) || g.Code != nil || s != nil {
					t.Errorf("%s: Get, Slots = %v, %v", name, g, s)
				}
				if errno := a.Slots(x).Put(api.Word{7}, val(5, 1)); errno != api.ErrNil {
					t.Errorf("%s: Slots, Put = %v", name, errno)
				}
				if errno := a.Drop(x); errno != api.ErrNil {
					t.Errorf("%s: Drop = %v", name, errno)
				}
				if dead, secret := a.Dead(x); dead || secret {
					t.Errorf("%s: Dead = %v, %v", name, dead, secret)
				}
			}
			if errno := a.Settle(); errno != api.ErrNil {
				t.Errorf("%s: Settle = %v", name, errno)
			}
		}
	}
}
