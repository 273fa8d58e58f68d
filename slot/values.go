package slot

import (
	"iter"
	"maps"
	"slices"

	"excise/api"
)

// values are some values, by their keys.
type values map[api.Word]api.Val

// put lays a value under a key; one that is as is usual there needs no place.
func (l values) put(key api.Word, v, usual api.Val) {
	if v == usual {
		delete(l, key)
		return
	}
	l[key] = v
}

// over is other values with these laid over them, in a map of its own if there are any.
func (l values) over(others values) values {
	if len(l) == 0 {
		return others
	}
	all := maps.Clone(others)
	for key, v := range l {
		all.put(key, v, api.Val{})
	}
	return all
}

// look is a look into maps, one behind the other: it tells the value of the first one that has a key, nought of bottom where none has it.
func look(l ...values) func(key api.Word) api.Val {
	return func(key api.Word) api.Val {
		for _, m := range l {
			if v, has := m[key]; has {
				return v
			}
		}
		return api.Val{}
	}
}

// each goes over the keys of maps, in no order, with what a look into them tells; a key that several have comes as often, with the same value.
func each(l ...values) iter.Seq2[api.Word, api.Val] {
	value := look(l...)
	return func(yield func(api.Word, api.Val) bool) {
		for _, m := range l {
			for key := range m {
				if !yield(key, value(key)) {
					return
				}
			}
		}
	}
}

// sorted tells the keys of a map in an order.
func sorted[K comparable, V any](m map[K]V, order func(a, b K) int) []K {
	return slices.SortedFunc(maps.Keys(m), order)
}
