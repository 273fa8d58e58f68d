package gauge

import (
	"excise/api"
	"excise/label"
)

// number is one that may be secret, or a bound of it that all know.
type number uint64

// plus is both together.
func (n number) plus(m number) number { return n + m }

// less is what is left without the other one: nothing, if that is more.
func (n number) less(m number) number { return n - min(n, m) }

// lesser is the lesser of both.
func (n number) lesser(m number) number { return min(n, m) }

// Where the three numbers lie; they rise, where they are right.
const (
	low = iota
	exact
	high
)

// numbers are a number between its bounds.
type numbers [3]number

// rise tells whether they rise, to no more than there may be.
func (l numbers) rise() bool {
	return l[low] <= l[exact] && l[exact] <= l[high] && l[high] <= api.MaxGas
}

// known tells whether its bounds leave just one number.
func (l numbers) known() bool { return l[low] == l[high] }

// turned are these, the bounds having changed places.
func (l numbers) turned() numbers { return numbers{l[high], l[exact], l[low]} }

// told are three numbers, each told by its place, and by what is there.
func (l numbers) told(tell func(at int, n number) number) numbers {
	return fold(l, func(sum numbers, at int, n number) numbers {
		sum[at] = tell(at, n)
		return sum
	}, l)
}

// fold lays three numbers on a sum, one behind the other.
func fold[S any](sum S, lay func(sum S, at int, n number) S, l numbers) S {
	for at, n := range l {
		sum = lay(sum, at, n)
	}
	return sum
}

// draft is a gauge, or a cost, under way.
type draft struct {
	numbers
	label api.Label
}

// open is a number that all know.
func open(n uint64) draft {
	return draft{numbers: numbers{number(n), number(n), number(n)}}
}

// ofGauge is a gauge's draft.
func ofGauge(g api.Gauge) draft {
	return draft{numbers{low: number(g.Lo), exact: number(g.Left), high: number(g.Hi)}, g.Label}
}

// ofCost is a cost's draft.
func ofCost(c api.Cost) draft {
	return draft{numbers{low: number(c.Least), exact: number(c.Exact), high: number(c.Most)}, c.Label}
}

// right tells whether all are right.
func right(l ...draft) bool {
	for _, d := range l {
		if !d.rise() || d.known() != (d.label == api.Bottom) {
			return false
		}
	}
	return true
}

// by is what becomes of two, number by number.
func (d draft) by(does func(a, b number) number, o draft) draft {
	both := d.told(func(at int, n number) number { return does(n, o.numbers[at]) })
	return draft{both, label.Join(d.label, o.label)}
}

// without is what is left of one without another one; the more that may be, the less is left.
func (d draft) without(o draft) draft {
	return d.by(number.less, draft{o.turned(), o.label})
}

// share is one of so many like parts, rounded down.
func (d draft) share(many number) draft {
	return draft{d.told(func(_ int, n number) number { return n / many }), d.label}
}

// gauge is the gauge, made right: what all know is no secret.
func (d draft) gauge() api.Gauge {
	if d.known() {
		d.label = api.Bottom
	}
	return api.Gauge{Left: uint64(d.numbers[exact]), Lo: uint64(d.numbers[low]), Hi: uint64(d.numbers[high]), Label: d.label}
}
