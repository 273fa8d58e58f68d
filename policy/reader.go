package policy

import (
	"strconv"
	"strings"

	"excise/api"
	"excise/label"
)

// words are those of a line that are not read yet.
type words []string

// next takes the first word away.
func (w *words) next() string {
	need(len(*w) > 0)
	first := (*w)[0]
	*w = (*w)[1:]
	return first
}

// reader is a policy under way, and the words and the number of the line that is being read.
type reader struct {
	words
	number int
	policy api.Policy
}

// ways are the ways to read what is behind a line's first word.
func ways() map[string]func(*reader) {
	return map[string]func(*reader){
		ofDefault: (*reader).readDefault,
		ofClear:   (*reader).readClear,
		ofRelease: (*reader).readRelease,
	}
}

// read is the policy that a text's lines tell, whether or not it may be.
func read(s string) (p api.Policy, errno api.Errno) {
	defer func() {
		x := recover()
		if x == nil {
			return
		}
		given, is := x.(api.Errno)
		if !is {
			panic(x) // a fault of the program's own, that no number tells of
		}
		errno = given
	}()
	var r reader
	ways := ways()
	lines, ended := strings.CutSuffix(s, end)
	need(ended)
	for n, piece := range pieces(lines) {
		r.number, r.words = n, strings.Split(piece, blank)
		way := ways[r.next()]
		need(way != nil)
		way(&r)
		need(len(r.words) == 0)
	}
	return r.policy, api.OK
}

// need gives up where what a text must have is not so.
func need(so bool) {
	if !so {
		panic(api.ErrPolicy)
	}
}

// readDefault reads the first line on.
func (r *reader) readDefault() {
	need(r.number == 0)
	r.policy.Default = r.label()
}

// readClear reads a line of a clearance on, which are ahead of releases.
func (r *reader) readClear() {
	need(r.number > 0 && len(r.policy.Releases) == 0)
	r.policy.Clears = append(r.policy.Clears, api.Clear{Address: r.address(), Label: r.label()})
}

// readRelease reads a line of a release on.
func (r *reader) readRelease() {
	need(r.number > 0)
	r.policy.Releases = append(r.policy.Releases, api.Release{Address: r.address(), Entry: r.entry(), Target: r.label()})
}

// label reads the next word, which is a label's text.
func (r *reader) label() api.Label {
	l, errno := label.Parse(r.next())
	need(errno == api.OK)
	return l
}

// address reads the next word, which is an address's text.
func (r *reader) address() api.Address {
	a, errno := Address(r.next())
	need(errno == api.OK)
	return a
}

// entry reads the next word, which is an entry's number.
func (r *reader) entry() uint32 {
	s := r.next()
	n, err := strconv.ParseUint(s, base, 32)
	need(err == nil && number(uint32(n)) == s) // of each number there is just one text
	return uint32(n)
}
