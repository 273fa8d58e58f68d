package account_test

import (
	"bytes"
	"slices"
	"testing"

	"excise/account"
	"excise/api"
	"excise/slot"
)

// noise tells numbers without a pattern, the same ones each time.
func noise() func(below int) int {
	n := uint64(0x9e3779b97f4a7c15)
	return func(below int) int {
		n ^= n << 13
		n ^= n >> 7
		n ^= n << 17
		return int((n >> 20) % uint64(below))
	}
}

// addresses are small ones and such at the edges, unlike at the first byte, at the last one, between, in no order.
func addresses() []api.Address {
	var full api.Address
	for i := range full {
		full[i] = 255
	}
	return []api.Address{{19: 7}, {}, full, {0: 1}, {19: 1}, {18: 1}, {19: 255}, {0: 1, 19: 1}, {10: 128}, {0: 255}, {0: 7, 19: 7}, {19: 8}, {9: 5}}
}

// keys are some, at the edges too.
func keys() []api.Word { return []api.Word{{7}, {}, {0, 0, 0, 1 << 63}} }

// labels are few, so that many of them are below one another, and some at the edges.
func labels() []api.Label {
	return []api.Label{api.Bottom, 1, 2, 3, 4, 1 << 63, api.Top &^ 1, api.Top}
}

// val is a value of a small word.
func val(n uint64, a api.Label) api.Val { return api.Val{Word: api.Word{n}, Label: a} }

// nought is what is there of what was never made.
var nought api.Val

// values are noughts and other words, of a few labels.
func values() []api.Val {
	var l []api.Val
	for _, w := range []api.Word{{}, {5}, {6}, {0, 0, 0, 5}} {
		for _, a := range []api.Label{api.Bottom, 1, 3, api.Top} {
			l = append(l, api.Val{Word: w, Label: a})
		}
	}
	return l
}

// bodies are accounts of each value, with and without a nonce and code.
func bodies() []api.Account {
	var l []api.Account
	for _, v := range values() {
		for _, nonce := range []uint64{0, 1, 1<<64 - 1} {
			for _, c := range [][]byte{nil, {}, {0}, {0x60, 0x05}} {
				l = append(l, api.Account{Balance: v, Nonce: nonce, Code: c})
			}
		}
	}
	return l
}

// samePart tells whether two accounts are the same, nil and empty code too.
func samePart(a, b api.Account) bool {
	return a.Balance == b.Balance && a.Nonce == b.Nonce && bytes.Equal(a.Code, b.Code)
}

// pair are an address and an account that All tells.
type pair struct {
	address api.Address
	account api.Account
}

// samePairs tells whether two lists of pairs are the same.
func samePairs(a, b []pair) bool {
	return slices.EqualFunc(a, b, func(x, y pair) bool { return x.address == y.address && samePart(x.account, y.account) })
}

// all are the pairs that All tells.
func all(a *account.Accounts) []pair {
	var l []pair
	for x, y := range a.All() {
		l = append(l, pair{x, y})
	}
	return l
}

// whole is an account as the document tells it: what it has, its storage, and what that was.
type whole struct {
	api.Account
	now, was map[api.Word]api.Val
}

// model is accounts as the document tells them.
type model map[api.Address]*whole

// of is an account, which is there from then on.
func (m model) of(x api.Address) *whole {
	if m[x] == nil {
		m[x] = &whole{now: map[api.Word]api.Val{}, was: map[api.Word]api.Val{}}
	}
	return m[x]
}

// settle settles all storage.
func (m model) settle() {
	for _, y := range m {
		for key, v := range y.now {
			y.was[key] = v
		}
	}
}

// copy is another one of the same.
func (m model) copy() model {
	c := model{}
	for x, y := range m {
		z := c.of(x)
		z.Account = y.Account
		for key, v := range y.now {
			z.now[key] = v
		}
		for key, v := range y.was {
			z.was[key] = v
		}
	}
	return c
}

// shown tells whether All is to tell an account.
func (y *whole) shown() bool {
	for _, v := range y.now {
		if v != nought {
			return true
		}
	}
	return y.Balance != nought || y.Nonce != 0 || len(y.Code) != 0
}

// pairs are those that All is to tell.
func (m model) pairs() []pair {
	var l []pair
	for x, y := range m {
		if y.shown() {
			l = append(l, pair{x, y.Account})
		}
	}
	slices.SortFunc(l, func(a, b pair) int { return bytes.Compare(a.address[:], b.address[:]) })
	return l
}

// same tells whether two values are alike up to a label, as the document says it.
func same(a, b api.Val, up api.Label) bool {
	return a.Label == b.Label && (a.Label&^up != 0 || a.Word == b.Word)
}

// alike tells whether two models are, of the addresses and keys that there may be.
func (m model) alike(n model, up api.Label) bool {
	for _, x := range addresses() {
		y, z := m.of(x), n.of(x)
		if y.Nonce != z.Nonce || !bytes.Equal(y.Code, z.Code) || !same(y.Balance, z.Balance, up) {
			return false
		}
		for _, key := range keys() {
			if !same(y.now[key], z.now[key], up) || !same(y.was[key], z.was[key], up) {
				return false
			}
		}
	}
	return true
}

// hold looks whether accounts are as the model, of the addresses that there may be; storage is looked at where it is asked for.
func hold(t *testing.T, a *account.Accounts, m model, storage bool) {
	t.Helper()
	for _, x := range addresses() {
		y := m.of(x)
		if g := a.Get(x); !samePart(g, y.Account) {
			t.Fatalf("Get(%x) = %v, want %v", x, g, y.Account)
		}
		bare := y.Nonce == 0 && len(y.Code) == 0
		dead, secret := a.Dead(x)
		if dead != (bare && y.Balance.Word == api.Word{}) || secret != (bare && y.Balance.Label != 0) {
			t.Fatalf("Dead(%x) = %v, %v of %v", x, dead, secret, y.Account)
		}
		for _, key := range keys() {
			if !storage {
				break
			}
			if g, w := a.Slots(x).Get(key), a.Slots(x).Was(key); g != y.now[key] || w != y.was[key] {
				t.Fatalf("%x stores %v of %v, which was %v; want %v, %v", x, g, key, w, y.now[key], y.was[key])
			}
		}
	}
	if g, want := all(a), m.pairs(); !samePairs(g, want) {
		t.Fatalf("All tells %v, want %v", g, want)
	}
}

// put makes an account that, which must be taken.
func put(t *testing.T, a *account.Accounts, x api.Address, y api.Account) {
	t.Helper()
	if errno := a.Put(x, y); errno != api.OK {
		t.Fatalf("Put(%x, %v) = %v", x, y, errno)
	}
}

// store lets an account store a value, which must be taken.
func store(t *testing.T, a *account.Accounts, x api.Address, key api.Word, v api.Val) {
	t.Helper()
	if errno := a.Slots(x).Put(key, v); errno != api.OK {
		t.Fatalf("Slots(%x).Put = %v", x, errno)
	}
}

// drop drops an account, which must be taken.
func drop(t *testing.T, a *account.Accounts, x api.Address) {
	t.Helper()
	if errno := a.Drop(x); errno != api.OK {
		t.Fatalf("Drop(%x) = %v", x, errno)
	}
}

// settle settles all storage, which must be taken.
func settle(t *testing.T, a *account.Accounts) {
	t.Helper()
	if errno := a.Settle(); errno != api.OK {
		t.Fatalf("Settle = %v", errno)
	}
}

// with is new accounts of which one was put.
func with(t *testing.T, x api.Address, y api.Account) *account.Accounts {
	t.Helper()
	a := account.New()
	put(t, a, x, y)
	return a
}

// storing is new accounts of which one stores a value, settled or not.
func storing(t *testing.T, settled bool, x api.Address, v api.Val) *account.Accounts {
	t.Helper()
	a := account.New()
	store(t, a, x, api.Word{7}, v)
	if settled {
		settle(t, a)
	}
	return a
}

// alikeBothWays tells whether two are alike, which must be so either way round.
func alikeBothWays(t *testing.T, a, b *account.Accounts, up api.Label) bool {
	t.Helper()
	g := account.Alike(a, b, up)
	if h := account.Alike(b, a, up); h != g {
		t.Fatalf("Alike up to %x is %v, the other way round %v", up, g, h)
	}
	return g
}

// isNew tells whether storage is as new.
func isNew(s *slot.Slots) bool { return s != nil && slot.Alike(s, slot.New(), api.Top) }

// nones are what is no accounts.
func nones() map[string]*account.Accounts {
	return map[string]*account.Accounts{"nil": nil, "zero": new(account.Accounts)}
}
