package meet

import (
	"cmp"
	"slices"
)

// hop is what is behind a number: the nearest one, one that is farther on, and how many there are.
type hop struct{ near, far, count int }

// hops are what is behind numbers; behind the exit's there is nothing.
type hops map[int]hop

// add tells of a number what is nearest behind it. It hops far where two hops from there on are as long as each other, so that few hops lead along any line.
func (h hops) add(n, near int) {
	one := h[near]
	two := h[one.far]
	far := near
	if one.count-two.count == two.count-h[two.far].count {
		far = two.far
	}
	h[n] = hop{near: near, far: far, count: one.count + 1}
}

// met tells the nearest of what is in all sets. A set is told by the nearest thing in it, which is its greatest one. To shrink it is to go on to one behind that, leaving out only what is greater than the least one told, for that is not in all.
func met[T cmp.Ordered](shrink func(nearest, least T) T, sets ...T) T {
	l := slices.Clone(sets)
	for changed := true; changed; {
		changed = false
		least := slices.Min(l)
		for i := range l {
			for l[i] > least {
				l[i], changed = shrink(l[i], least), true
			}
		}
	}
	return l[0]
}
