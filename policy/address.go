package policy

import (
	"bytes"
	"cmp"
	"strings"

	"excise/api"
	"excise/word"
)

// How an address is laid out, as bytes and as text.
const (
	size   = len(api.Address{})
	digits = 2 * size
	lead   = "0x"
	nought = "0"
)

// Order is -1, 0 or 1, as the first address is less, the same, or more.
func Order(a, b api.Address) int { return bytes.Compare(a[:], b[:]) }

// Name tells an address's text.
func Name(a api.Address) string {
	s := strings.TrimPrefix(word.Text(Word(a)), lead)
	return lead + strings.Repeat(nought, digits-len(s)) + s
}

// Address tells the address of a text.
func Address(s string) (api.Address, api.Errno) {
	rest, led := strings.CutPrefix(s, lead)
	if !led || len(rest) != digits {
		return api.Address{}, api.ErrPolicy
	}
	w, errno := word.Parse(lead + cmp.Or(strings.TrimLeft(rest, nought), nought)) // a word's text has no noughts ahead
	if errno != api.OK {
		return api.Address{}, api.ErrPolicy
	}
	return Of(w), api.OK
}

// Word is an address as a word.
func Word(a api.Address) api.Word {
	w, _ := word.Read(a[:]) // a word has room for more bytes
	return w
}

// Of is the address that a word's last bytes are.
func Of(a api.Word) api.Address {
	b := word.Bytes(a)
	return api.Address(b[len(b)-size:])
}
