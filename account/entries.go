package account

import (
	"iter"
	"maps"
	"slices"

	"excise/api"
	"excise/policy"
	"excise/slot"
	"excise/tag"
)

// body is what an account has, but for its storage.
type body struct {
	balance api.Val
	nonce   uint64
	code    string // nobody can change a text: so copies share it
}

// of is the body of an account.
func of(y api.Account) body {
	return body{balance: y.Balance, nonce: y.Nonce, code: string(y.Code)}
}

// account is a body as it is told, its code in new memory.
func (b body) account() api.Account {
	y := api.Account{Balance: b.balance, Nonce: b.nonce}
	if b.code != "" {
		y.Code = []byte(b.code)
	}
	return y
}

// made tells whether it is not as if never made.
func (b body) made() bool { return b != body{} }

// bare tells whether it has neither a nonce nor code.
func (b body) bare() bool { return b.nonce == 0 && b.code == "" }

// dead tells whether it is dead, and whether that is secret.
func (b body) dead() (dead, secret bool) {
	dead = b.bare() && b.balance.Word == api.Word{}
	secret = b.bare() && b.balance.Label != api.Bottom
	return dead, secret
}

// entry is an account with its storage, which is nil till somebody asks for it.
type entry struct {
	body
	slots *slot.Slots
}

// storage is its storage, new one where nobody asked for it yet.
func (y entry) storage() *slot.Slots {
	if y.slots == nil {
		return slot.New()
	}
	return y.slots
}

// alike tells whether two are alike up to a label, storage too.
func (y entry) alike(z entry, up api.Label) bool {
	return y.nonce == z.nonce && y.code == z.code &&
		tag.Same(y.balance, z.balance, up) && slot.Alike(y.storage(), z.storage(), up)
}

// entries are accounts, by their addresses.
type entries map[api.Address]entry

// at is the account of an address.
func (l entries) at(x api.Address) entry { return l[x] }

// put lays an account under an address; one without anything needs no place.
func (l entries) put(x api.Address, y entry) {
	if y == (entry{}) {
		delete(l, x)
		return
	}
	l[x] = y
}

// open tells the storage of an address; it stays there, for it may be put to from then on.
func (l entries) open(x api.Address) *slot.Slots {
	y := l.at(x)
	if y.slots == nil {
		y.slots = slot.New()
		l.put(x, y)
	}
	return y.slots
}

// twin is another map of the same, with storage of its own.
func (l entries) twin() entries {
	c := maps.Clone(l)
	for x, y := range l {
		if y.slots != nil {
			c.put(x, entry{body: y.body, slots: y.slots.Copy()})
		}
	}
	return c
}

// has tells whether an address has a place.
func (l entries) has(x api.Address) bool {
	_, is := l[x]
	return is
}

// beside goes over what two looks tell of the addresses of maps, each address once, in no order.
func beside(one, other func(x api.Address) entry, l ...entries) iter.Seq2[entry, entry] {
	return func(yield func(y, z entry) bool) {
		for i, m := range l {
			for x := range m {
				seen := slices.ContainsFunc(l[:i], func(ahead entries) bool { return ahead.has(x) })
				if !seen && !yield(one(x), other(x)) {
					return
				}
			}
		}
	}
}

// sorted tells the addresses of a map whose values are wanted, rising.
func sorted[V any](m map[api.Address]V, wanted func(y V) bool) []api.Address {
	var l []api.Address
	for x, y := range m {
		if wanted(y) {
			l = append(l, x)
		}
	}
	slices.SortFunc(l, policy.Order)
	return l
}
