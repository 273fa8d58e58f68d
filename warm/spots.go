package warm

import (
	"maps"
	"slices"

	"excise/api"
)

// room is how many spots lie in a layer of one's own ahead of sharing them: fewer are copied one by one each time.
const room = 32

// spot is a slot; an address alone has the key nought.
type spot struct {
	address api.Address
	key     api.Word
}

// layer is some spots.
type layer map[spot]struct{}

// put lays a spot there.
func (l layer) put(p spot) { l[p] = struct{}{} }

// holds tells whether a spot lies there.
func (l layer) holds(p spot) bool {
	_, is := l[p]
	return is
}

// spots are a set of spots. It is copied at each call within a transaction, and may be long by then: so copies share layers, and have just a few spots of their own.
type spots struct {
	layer          // its own ones
	shared []layer // never changed on the spot; no two have the same spot, and each has more than twice as many as the one behind it
}

// has tells whether a spot is in the set.
func (s *spots) has(p spot) bool {
	return s.holds(p) || slices.ContainsFunc(s.shared, func(l layer) bool { return l.holds(p) })
}

// add lays a spot there that is not in the set.
func (s *spots) add(p spot) {
	s.put(p)
	if len(s.layer) == room {
		s.share()
	}
}

// share makes a shared layer of its own spots, together with the layers that are not much larger: so there are few to look through.
func (s *spots) share() {
	n := len(s.shared)
	for ; n > 0 && len(s.shared[n-1]) <= 2*len(s.layer); n-- {
		maps.Copy(s.layer, s.shared[n-1])
	}
	s.shared = append(s.shared[:n:n], s.layer) // at a place of its own, for copies have the list too
	s.layer = layer{}
}

// layers are all its layers.
func (s *spots) layers() []layer { return append(slices.Clone(s.shared), s.layer) }

// many tells how many spots there are.
func (s *spots) many() int {
	n := 0
	for _, l := range s.layers() {
		n += len(l)
	}
	return n
}

// twin is another one of the same.
func (s *spots) twin() spots { return spots{maps.Clone(s.layer), s.shared} }

// touches is a touch of spots: it lays one there, and tells whether it was cold.
func touches(s *spots) func(p spot) (cold bool) {
	return func(p spot) bool {
		if s.has(p) {
			return false
		}
		s.add(p)
		return true
	}
}

// touched are the addresses and the slots that were touched, apart.
type touched struct{ addresses, slots spots }

// untouched is when nothing was.
func untouched() touched {
	return touched{addresses: spots{layer: layer{}}, slots: spots{layer: layer{}}}
}

// twin is another one of the same.
func (t *touched) twin() touched { return touched{t.addresses.twin(), t.slots.twin()} }

// keys tells all addresses, those that have just slots too, each with the keys of its slots, in no order.
func (t *touched) keys() map[api.Address][]api.Word {
	m := map[api.Address][]api.Word{}
	for _, l := range t.addresses.layers() {
		for p := range l {
			m[p.address] = nil
		}
	}
	for _, l := range t.slots.layers() {
		for p := range l {
			m[p.address] = append(m[p.address], p.key)
		}
	}
	return m
}
