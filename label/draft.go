package label

import "excise/api"

// How principals are numbered, and their numbers told.
const (
	principals = 64
	base       = 10
)

// set is a label, into which principals are put on the spot.
type set api.Label

// put puts a principal in.
func (s *set) put(principal int) { *s |= 1 << principal }

// draft is a label under way, and the principal whose digits are being read.
type draft struct {
	set
	principal int
}

// take reads a rune on; it tells whether a label's text may have it there.
func (d *draft) take(c rune) bool {
	switch {
	case c == comma:
		d.put(d.principal)
		d.principal = 0
	case '0' <= c && c <= '9':
		d.principal = d.principal*base + int(c-'0')
	default:
		return false
	}
	return d.principal < principals
}
