package code

import (
	"strings"

	"excise/api"
)

// words are those of a text that are not read yet.
type words []string

// next takes the first word away.
func (w *words) next() string {
	need(len(*w) > 0)
	first := (*w)[0]
	*w = (*w)[1:]
	return first
}

// reader is code under way, the names of all ops, and the words that are left.
type reader struct {
	words
	names [count]string
	code  []byte
}

// read is the code that a text's words tell.
func read(s string) (code []byte, errno api.Errno) {
	defer func() {
		given := recover()
		if no, is := given.(api.Errno); is {
			code, errno = nil, no
		} else if given != nil {
			panic(given) // a fault of the program's own, that no number tells of
		}
	}()
	r := reader{words: strings.Split(s, blank), names: names()}
	for len(r.words) > 0 {
		r.op()
	}
	return r.code, api.OK
}

// need gives up where what a text must have is not so.
func need(so bool) {
	if !so {
		panic(api.ErrCode)
	}
}

// op reads an op on, with its bytes.
func (r *reader) op() {
	name := r.next()
	at, is := find(r.names[:], name)
	op := byte(at)
	if !is {
		op = bytesOf(name, 1)[0]
		need(r.names[op] == "") // what is an op is told by its name alone
	}
	r.code = append(r.code, op)
	if n := size(op); n > 0 {
		r.code = append(r.code, bytesOf(r.next(), n)...)
	}
}

// bytesOf tells the bytes of a text, of which there must be so many.
func bytesOf(s string, many int) []byte {
	rest, led := strings.CutPrefix(s, lead)
	need(led && len(rest) == 2*many)
	b := make([]byte, many)
	for i := range b {
		b[i] = digit(rest[2*i])<<digitBits | digit(rest[2*i+1])
	}
	return b
}

// digit tells what a digit stands for.
func digit(c byte) byte {
	v := strings.IndexByte(digits, c)
	need(v >= 0)
	return byte(v)
}
