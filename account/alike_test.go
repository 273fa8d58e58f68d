package account_test

import (
	"bytes"
	"testing"

	"excise/account"
	"excise/api"
)

func TestP162AlikeOfEachTwo(t *testing.T) {
	x := api.Address{19: 7}
	for _, y := range bodies() {
		for _, z := range bodies() {
			a, b := with(t, x, y), with(t, x, z)
			for _, up := range []api.Label{api.Bottom, 1, 2, 3, api.Top} {
				want := y.Nonce == z.Nonce && bytes.Equal(y.Code, z.Code) && same(y.Balance, z.Balance, up)
				if g := account.Alike(a, b, up); g != want {
					t.Fatalf("Alike(%v, %v, %x) = %v", y, z, up, g)
				}
			}
		}
	}
}

func TestP162AlikeOfStorage(t *testing.T) {
	x := api.Address{19: 7}
	for _, v := range values() {
		for _, w := range values() {
			for _, up := range labels() {
				want := same(v, w, up)
				for _, settled := range []bool{false, true} {
					a, b := storing(t, settled, x, v), storing(t, settled, x, w)
					if g := alikeBothWays(t, a, b, up); g != want {
						t.Fatalf("of storage of %v and %v, Alike up to %x = %v", v, w, up, g)
					}
				}
				a, b := storing(t, true, x, v), storing(t, true, x, w)
				store(t, a, x, api.Word{7}, val(1, 0))
				store(t, b, x, api.Word{7}, val(1, 0))
				if g := alikeBothWays(t, a, b, up); g != want {
					t.Fatalf("where storage was of %v and %v, Alike up to %x = %v", v, w, up, g)
				}
			}
		}
	}
	now, was := storing(t, false, x, val(5, 2)), storing(t, true, x, val(5, 2))
	for _, up := range labels() {
		if alikeBothWays(t, now, was, up) {
			t.Errorf("up to %x, what storage was is not looked at", up)
		}
	}
}

// TestP162AlikeOfOneMore has an account that just one of two has; of the other one it was never made.
func TestP162AlikeOfOneMore(t *testing.T) {
	common := api.Address{1: 1}
	for _, x := range addresses() {
		for _, up := range labels() {
			for _, y := range bodies() {
				a, b := with(t, common, api.Account{Nonce: 1}), with(t, common, api.Account{Nonce: 1})
				put(t, b, x, y)
				want := y.Nonce == 0 && len(y.Code) == 0 && same(y.Balance, nought, up)
				if g := alikeBothWays(t, a, b, up); g != want {
					t.Fatalf("with %v of %x more, Alike up to %x = %v", y, x, up, g)
				}
			}
			for _, v := range values() {
				a, b := with(t, common, api.Account{Nonce: 1}), with(t, common, api.Account{Nonce: 1})
				store(t, b, x, api.Word{7}, v)
				if g := alikeBothWays(t, a, b, up); g != same(v, nought, up) {
					t.Fatalf("where %x stores %v more, Alike up to %x = %v", x, v, up, g)
				}
				settle(t, b)
				store(t, b, x, api.Word{7}, nought)
				if g := alikeBothWays(t, a, b, up); g != same(v, nought, up) {
					t.Fatalf("where %x stored %v more, Alike up to %x = %v", x, v, up, g)
				}
			}
		}
	}
}

func TestP162AlikeOfTheSame(t *testing.T) {
	a, b := account.New(), account.New()
	l := addresses()
	for i := range l {
		for k, one := range []*account.Accounts{a, b} {
			x := l[i]
			if k == 1 {
				x = l[len(l)-1-i]
			}
			put(t, one, x, api.Account{Nonce: uint64(x[19]), Code: []byte{x[0]}})
			store(t, one, x, api.Word{7}, val(uint64(x[19]), 1))
		}
	}
	b.Slots(api.Address{5: 5})
	put(t, b, api.Address{6: 6}, api.Account{Nonce: 1})
	drop(t, b, api.Address{6: 6})
	put(t, b, api.Address{7: 7}, api.Account{Nonce: 1})
	put(t, b, api.Address{7: 7}, api.Account{})
	for _, up := range labels() {
		if !alikeBothWays(t, a, b, up) || !account.Alike(a, a, up) || !alikeBothWays(t, b, b.Copy(), up) {
			t.Errorf("up to %x, the same are not alike", up)
		}
	}
	if len(all(a)) != len(l) || len(all(b)) != len(l) {
		t.Error("what is looked at is changed")
	}
}

func TestP162AlikeOfNone(t *testing.T) {
	for _, up := range labels() {
		for name, a := range nones() {
			for other, b := range nones() {
				if !account.Alike(a, b, up) {
					t.Errorf("%s is not like %s", name, other)
				}
			}
			for _, b := range []*account.Accounts{account.New(), with(t, api.Address{}, api.Account{Balance: val(5, 4)}), storing(t, true, api.Address{}, val(0, 4))} {
				if alikeBothWays(t, a, b, up) {
					t.Errorf("%s is like accounts of %d", name, len(all(b)))
				}
			}
		}
	}
}

// TestP163Walks does what may be done to accounts in many orders, and holds them against the model.
func TestP163Walks(t *testing.T) {
	next, l, y, v := noise(), addresses()[:5], bodies(), values()
	for walk := range 40 {
		a, m := []*account.Accounts{account.New(), account.New()}, []model{{}, {}}
		for range 100 {
			i, x := next(len(a)), l[next(len(l))]
			switch next(12) {
			case 0:
				settle(t, a[i])
				m[i].settle()
			case 1:
				k := next(len(a))
				a[k], m[k] = a[i].Copy(), m[i].copy()
			case 2:
				drop(t, a[i], x)
				delete(m[i], x)
			case 3, 4, 5, 6:
				key, w := keys()[next(len(keys()))], v[next(len(v))]
				store(t, a[i], x, key, w)
				m[i].of(x).now[key] = w
			case 7:
				if a[i].Put(x, api.Account{Code: make([]byte, api.MaxCode+1)}) != api.ErrLong {
					t.Fatal("code that is too long is taken")
				}
			default:
				z := y[next(len(y))]
				put(t, a[i], x, z)
				m[i].of(x).Account = z
			}
			hold(t, a[0], m[0], walk%2 == 0)
			hold(t, a[1], m[1], walk%2 == 0)
			for _, up := range labels() {
				if g, want := account.Alike(a[0], a[1], up), m[0].alike(m[1], up); g != want {
					t.Fatalf("Alike up to %x = %v", up, g)
				}
			}
		}
	}
}

// TestP163AlikeBelow changes words of accounts alone, so that many are alike up to some labels.
func TestP163AlikeBelow(t *testing.T) {
	next, l := noise(), addresses()[:3]
	some := 0
	for range 500 {
		a := []*account.Accounts{account.New(), account.New()}
		for i, x := range l {
			for _, one := range a {
				put(t, one, x, api.Account{Balance: val(uint64(next(2)), labels()[1+i]), Nonce: 1})
				store(t, one, x, api.Word{7}, val(uint64(next(2)), labels()[2+i]))
			}
		}
		for _, up := range labels() {
			if !alikeBothWays(t, a[0], a[1], up) {
				continue
			}
			for _, below := range labels() {
				if below&^up != 0 {
					continue
				}
				some++
				if !alikeBothWays(t, a[0], a[1], below) {
					t.Fatalf("alike up to %x, but not up to %x", up, below)
				}
			}
		}
	}
	if some < 500 {
		t.Errorf("just %d were alike", some)
	}
}

// TestOfMany has many accounts of long code, and as many copies of them as a world has marks.
func TestOfMany(t *testing.T) {
	const many, marks = 300, 1100
	a := account.New()
	long := bytes.Repeat([]byte{0x5b}, api.MaxCode)
	at := func(i int) api.Address { return api.Address{3: byte(i >> 8), 19: byte(i)} }
	for i := range many {
		put(t, a, at(i), api.Account{Nonce: uint64(i + 1), Code: long})
		store(t, a, at(i), api.Word{7}, val(uint64(i), 1))
	}
	settle(t, a)
	var copies []*account.Accounts
	for i := range marks {
		copies = append(copies, a.Copy())
		put(t, a, at(i%many), api.Account{Nonce: uint64(i), Balance: val(uint64(i), 0)})
		store(t, a, at(i%many), api.Word{7}, val(uint64(i), 2))
	}
	for i, c := range copies {
		if g := c.Get(at(i % many)); i < many && (g.Nonce != uint64(i+1) || len(g.Code) != api.MaxCode) || i >= many && g.Nonce != uint64(i-many) {
			t.Fatalf("copy %d has %d, code of %d bytes", i, g.Nonce, len(g.Code))
		}
	}
	if n := len(all(a)); n != many {
		t.Errorf("All tells %d", n)
	}
	if c := copies[marks-1]; account.Alike(a, c, api.Top) || !account.Alike(c, c.Copy(), api.Top) || !account.Alike(copies[0], copies[0].Copy(), api.Top) {
		t.Error("Alike of many is not right")
	}
}
