package word_test

import (
	"bytes"
	"math/big"
	"strings"
	"testing"

	"excise/api"
	"excise/word"
)

const most = 1<<64 - 1

var (
	all    = api.Word{most, most, most, most}
	modulo = new(big.Int).Lsh(big.NewInt(1), 256)
)

// edges are words at which carries begin, end or are lost.
func edges() []api.Word {
	l := []api.Word{{}, {1}, {2}, {15}, {16}, {255}, {256}, {1 << 63}, all, {most, most, most}, {0, 0, 0, 1 << 63}}
	for i := range 4 {
		var one, full api.Word
		one[i], full[i] = 1, most
		l = append(l, one, full)
	}
	return l
}

// samples are the edges and words without a pattern, the same ones each time.
func samples() []api.Word {
	l := edges()
	n := uint64(0x9e3779b97f4a7c15)
	for range 20 {
		var w api.Word
		for i := range w {
			n ^= n << 13
			n ^= n >> 7
			n ^= n << 17
			w[i] = n
		}
		l = append(l, w)
	}
	return l
}

// number is the value of a word, made without the package that is tested.
func number(w api.Word) *big.Int {
	n := new(big.Int)
	for i := 3; i >= 0; i-- {
		n.Lsh(n, 64)
		n.Or(n, new(big.Int).SetUint64(w[i]))
	}
	return n
}

// same tells whether a word has a number's value modulo 2^256.
func same(w api.Word, n *big.Int) bool {
	return number(w).Cmp(new(big.Int).Mod(n, modulo)) == 0
}

func TestP11Of(t *testing.T) {
	for _, n := range []uint64{0, 1, 255, 1 << 32, 1 << 63, most} {
		if g := word.Of(n); g != (api.Word{n, 0, 0, 0}) {
			t.Errorf("Of(%d) = %v", n, g)
		}
	}
}

func TestP11Add(t *testing.T) {
	one := word.Of(1)
	for _, c := range []struct {
		in   []api.Word
		want api.Word
	}{
		{nil, api.Word{}},
		{[]api.Word{}, api.Word{}},
		{[]api.Word{all}, all},
		{[]api.Word{all, one}, api.Word{}},
		{[]api.Word{all, all}, api.Word{most - 1, most, most, most}},
		{[]api.Word{{most, most, most}, one}, api.Word{0, 0, 0, 1}},
		{[]api.Word{{most}, one, {0, most}}, api.Word{0, 0, 1}},
		{[]api.Word{all, all, all, {3}}, api.Word{}},
		{[]api.Word{{1, 2, 3, 4}, {5, 6, 7, 8}, {9, 10, 11, 12}}, api.Word{15, 18, 21, 24}},
	} {
		if g := word.Add(c.in...); g != c.want {
			t.Errorf("Add(%v) = %v, want %v", c.in, g, c.want)
		}
	}
	if g := word.Add(); g != (api.Word{}) {
		t.Errorf("Add() = %v", g)
	}
}

func TestP11AddOfMany(t *testing.T) {
	l := samples()
	sum := new(big.Int)
	for i := range l {
		sum.Add(sum, number(l[i]))
		if g := word.Add(l[:i+1]...); !same(g, sum) {
			t.Errorf("the sum of %d words is %v", i+1, g)
		}
	}
}

func TestP11AddKeepsItsWords(t *testing.T) {
	l := samples()
	word.Add(l...)
	for i, w := range samples() {
		if l[i] != w {
			t.Errorf("word %d has become %v", i, l[i])
		}
	}
}

func TestP11SubMul(t *testing.T) {
	for _, a := range samples() {
		for _, b := range samples() {
			x, y := number(a), number(b)
			if g := word.Add(a, b); !same(g, new(big.Int).Add(x, y)) {
				t.Errorf("Add(%v, %v) = %v", a, b, g)
			}
			if g := word.Sub(a, b); !same(g, new(big.Int).Sub(x, y)) {
				t.Errorf("Sub(%v, %v) = %v", a, b, g)
			}
			if g := word.Mul(a, b); !same(g, new(big.Int).Mul(x, y)) {
				t.Errorf("Mul(%v, %v) = %v", a, b, g)
			}
		}
	}
}

func TestP11BelowNoughtAndPastTheTop(t *testing.T) {
	high := api.Word{0, 0, 1}
	for _, c := range []struct {
		name      string
		got, want api.Word
	}{
		{"0 - 1", word.Sub(api.Word{}, word.Of(1)), all},
		{"1 - all", word.Sub(word.Of(1), all), word.Of(2)},
		{"2^192 - 1", word.Sub(api.Word{0, 0, 0, 1}, word.Of(1)), api.Word{most, most, most}},
		{"2^128 * 2^128", word.Mul(high, high), api.Word{}},
		{"2^128 * 2^64", word.Mul(high, api.Word{0, 1}), api.Word{0, 0, 0, 1}},
		{"all * all", word.Mul(all, all), word.Of(1)},
		{"all * 2", word.Mul(all, word.Of(2)), api.Word{most - 1, most, most, most}},
		{"all * 0", word.Mul(all, api.Word{}), api.Word{}},
	} {
		if c.got != c.want {
			t.Errorf("%s = %v, want %v", c.name, c.got, c.want)
		}
	}
}

func TestP12Order(t *testing.T) {
	for _, a := range samples() {
		for _, b := range samples() {
			if g, w := word.Order(a, b), number(a).Cmp(number(b)); g != w {
				t.Errorf("Order(%v, %v) = %d, want %d", a, b, g, w)
			}
		}
	}
	if g := word.Order(api.Word{most, most, most}, api.Word{0, 0, 0, 1}); g != -1 {
		t.Errorf("lower parts count more than the highest: %d", g)
	}
	if g := word.Order(api.Word{5, 0, 0, 7}, api.Word{4, 9, 9, 7}); g != -1 {
		t.Errorf("the lowest part counts more than those above: %d", g)
	}
}

func TestP12Small(t *testing.T) {
	for _, n := range []uint64{0, 1, most} {
		if g, ok := word.Small(api.Word{n}); g != n || !ok {
			t.Errorf("Small(%d) = %d, %v", n, g, ok)
		}
	}
	for _, a := range []api.Word{{0, 1}, {0, 0, 1}, {0, 0, 0, 1}, {7, 1}, {7, 0, 0, 1 << 63}, all} {
		if g, ok := word.Small(a); g != 0 || ok {
			t.Errorf("Small(%v) = %d, %v", a, g, ok)
		}
	}
}

func TestP13Bytes(t *testing.T) {
	for _, a := range samples() {
		want := number(a).FillBytes(make([]byte, 32))
		if g := word.Bytes(a); !bytes.Equal(g, want) {
			t.Errorf("Bytes(%v) = %x", a, g)
		}
	}
	g := word.Bytes(word.Of(0x0102))
	if len(g) != 32 || g[30] != 1 || g[31] != 2 {
		t.Errorf("Bytes(0x102) = %x", g)
	}
	g[0] = 9
	if h := word.Bytes(word.Of(0x0102)); h[0] != 0 {
		t.Errorf("two answers share their memory: %x", h)
	}
}

func TestP13Read(t *testing.T) {
	for _, a := range samples() {
		b := word.Bytes(a)
		for many := 0; many <= len(b); many++ {
			want := new(big.Int).SetBytes(b[:many])
			g, e := word.Read(b[:many])
			if e != api.OK || number(g).Cmp(want) != 0 {
				t.Errorf("Read(%x) = %v, %v", b[:many], g, e)
			}
		}
		if !bytes.Equal(b, word.Bytes(a)) {
			t.Errorf("Read has changed its bytes to %x", b)
		}
	}
}

func TestP13ReadEdges(t *testing.T) {
	for _, c := range []struct {
		in   []byte
		want api.Word
		e    api.Errno
	}{
		{nil, api.Word{}, api.OK},
		{[]byte{}, api.Word{}, api.OK},
		{[]byte{0}, api.Word{}, api.OK},
		{[]byte{1, 0}, word.Of(256), api.OK},
		{[]byte{0, 0, 7}, word.Of(7), api.OK},
		{bytes.Repeat([]byte{255}, 32), all, api.OK},
		{bytes.Repeat([]byte{255}, 33), api.Word{}, api.ErrLong},
		{make([]byte, 33), api.Word{}, api.ErrLong},
		{make([]byte, 100000), api.Word{}, api.ErrLong},
	} {
		if g, e := word.Read(c.in); g != c.want || e != c.e {
			t.Errorf("Read of %d bytes = %v, %v, want %v, %v", len(c.in), g, e, c.want, c.e)
		}
	}
}

func TestP13Text(t *testing.T) {
	for _, a := range samples() {
		if g, w := word.Text(a), "0x"+number(a).Text(16); g != w {
			t.Errorf("Text(%v) = %s, want %s", a, g, w)
		}
	}
	if g := word.Text(api.Word{}); g != "0x0" {
		t.Errorf("Text(0) = %s", g)
	}
	if g := word.Text(word.Of(255)); g != "0xff" {
		t.Errorf("Text(255) = %s", g)
	}
}

func TestP13Parse(t *testing.T) {
	for _, c := range []struct {
		in   string
		want api.Word
	}{
		{"0x0", api.Word{}},
		{"0x1", word.Of(1)},
		{"0xff", word.Of(255)},
		{"0x10", word.Of(16)},
		{"0x123456789abcdef0", word.Of(0x123456789abcdef0)},
		{"0x" + strings.Repeat("f", 64), all},
		{"0x1" + strings.Repeat("0", 63), api.Word{0, 0, 0, 1 << 60}},
		{"0x1" + strings.Repeat("0", 16), api.Word{0, 1}},
	} {
		if g, e := word.Parse(c.in); g != c.want || e != api.OK {
			t.Errorf("Parse(%s) = %v, %v", c.in, g, e)
		}
	}
}

func TestP13ParseNoText(t *testing.T) {
	for _, s := range []string{
		"", "0", "x", "0x", "ff", "xff", "0X1", "00x1", " 0x1", "0x1 ", "0x 1", "0x+1", "-0x1", "0x-1", "0xF", "0xfF", "0xg",
		"0x0f", "0x00", "0x01", "0x/", "0x:", "0x`", "0x1_0", "0x0x1", "0x1\n", "0x\x00", "0xé", "1x0",
		"0x0" + strings.Repeat("f", 63), "0x" + strings.Repeat("0", 64), "0x" + strings.Repeat("f", 63) + "g",
		strings.Repeat("f", 100),
	} {
		if g, e := word.Parse(s); g != (api.Word{}) || e != api.ErrText {
			t.Errorf("Parse(%q) = %v, %v", s, g, e)
		}
	}
}

func TestP13ParseLong(t *testing.T) {
	for _, s := range []string{
		"0x" + strings.Repeat("f", 65),
		"0x1" + strings.Repeat("0", 64),
		"0x" + strings.Repeat("0", 65),
		"0x" + strings.Repeat("g", 65),
		"0x" + strings.Repeat("é", 33),
		"0x" + strings.Repeat("1", 100000),
	} {
		if g, e := word.Parse(s); g != (api.Word{}) || e != api.ErrLong {
			t.Errorf("Parse of %d bytes = %v, %v", len(s), g, e)
		}
	}
	if _, e := word.Parse("1x" + strings.Repeat("f", 65)); e != api.ErrText {
		t.Errorf("what does not begin with 0x is no text, however long: %v", e)
	}
}

func TestP14Parts(t *testing.T) {
	for _, a := range samples() {
		at := 0
		for i, p := range word.Parts(a) {
			if i != at || p != a[i] {
				t.Errorf("Parts(%v) tells %d at %d as number %d", a, p, i, at)
			}
			at++
		}
		if at != 4 {
			t.Errorf("Parts(%v) tells %d numbers", a, at)
		}
	}
}

func TestP14PartsLeftAndAgain(t *testing.T) {
	a := api.Word{7, 8, 9, 10}
	parts := word.Parts(a)
	a[0] = 99
	for stop := range 5 {
		var got []uint64
		for i, p := range parts {
			if i == stop {
				break
			}
			got = append(got, p)
		}
		if len(got) != stop {
			t.Errorf("left at %d, it has told %v", stop, got)
		}
		for i, p := range got {
			if p != uint64(7+i) {
				t.Errorf("left at %d, it has told %v", stop, got)
			}
		}
	}
	calls := 0
	parts(func(int, uint64) bool { calls++; return false })
	if calls != 1 {
		t.Errorf("it goes on when it is left: %d", calls)
	}
}

func TestP14PartsWithinParts(t *testing.T) {
	parts := word.Parts(api.Word{1, 2, 3, 4})
	var sum uint64
	for _, p := range parts {
		for _, q := range parts {
			sum += p * q
		}
	}
	if sum != 100 {
		t.Errorf("gone over within itself, it tells %d", sum)
	}
}

func TestP15Sums(t *testing.T) {
	l := samples()
	for i, a := range l {
		for j, b := range l {
			c := l[(i+j)%len(l)]
			if g := word.Sub(word.Add(a, b), b); g != a {
				t.Errorf("%v and %v, taken away again, is %v", a, b, g)
			}
			if word.Add(a, b, c) != word.Add(c, b, a) || word.Add(a, b, c) != word.Add(word.Add(b, c), a) {
				t.Errorf("the order of %v, %v, %v counts in a sum", a, b, c)
			}
			if word.Mul(a, b) != word.Mul(b, a) || word.Mul(word.Mul(a, b), c) != word.Mul(a, word.Mul(b, c)) {
				t.Errorf("the order of %v, %v, %v counts in a product", a, b, c)
			}
			if word.Mul(a, word.Add(b, c)) != word.Add(word.Mul(a, b), word.Mul(a, c)) {
				t.Errorf("%v by the sum of %v and %v is not the sum of products", a, b, c)
			}
		}
	}
}

func TestP15UnlikeWords(t *testing.T) {
	seenBytes, seenTexts := map[string]api.Word{}, map[string]api.Word{}
	for _, a := range samples() {
		b, s := word.Bytes(a), word.Text(a)
		if w, ok := seenBytes[string(b)]; ok && w != a {
			t.Errorf("%v and %v have the bytes %x", a, w, b)
		}
		if w, ok := seenTexts[s]; ok && w != a {
			t.Errorf("%v and %v have the text %s", a, w, s)
		}
		seenBytes[string(b)], seenTexts[s] = a, a
		if g, e := word.Read(b); g != a || e != api.OK {
			t.Errorf("Read(Bytes(%v)) = %v, %v", a, g, e)
		}
		if g, e := word.Parse(s); g != a || e != api.OK {
			t.Errorf("Parse(Text(%v)) = %v, %v", a, g, e)
		}
	}
}
