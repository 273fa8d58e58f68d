package tag

import (
	"iter"

	"excise/api"
	"excise/label"
)

// cells are those of a list.
type cells []api.Cell

// cut is what there is of so many cells from a place on, without room behind it.
func (l cells) cut(at, many int) cells {
	rest := l[min(at, len(l)):]
	end := min(many, len(rest))
	return rest[:end:end]
}

// at is the cell at a place, a nought of bottom beyond the last one.
func (l cells) at(place int) api.Cell {
	if place >= len(l) {
		return cell(0)
	}
	return l[place]
}

// known goes over the bytes whose label is below that, each with its place.
func (l cells) known(up api.Label) iter.Seq2[int, byte] {
	return func(yield func(int, byte) bool) {
		for at, c := range l {
			if label.Below(c.Label, up) && !yield(at, c.Byte) {
				return
			}
		}
	}
}

// draft is a list under way, of so many cells in the end.
type draft struct {
	cells
	many int
}

// from is the list of the cells from a place on, noughts of bottom standing for those that lack.
func (d draft) from(place int) []api.Cell {
	d.cells = d.cut(place, d.many)
	return made(d.many, func(at int) api.Cell { return d.at(at) })
}
