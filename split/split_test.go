package split_test

import (
	"math/big"
	"slices"
	"testing"

	"excise/api"
	"excise/split"
	"excise/word"
)

const most = 1<<64 - 1

var (
	nought api.Word
	one    = api.Word{1}
	all    = api.Word{most, most, most, most}
	least  = api.Word{0, 0, 0, 1 << 63}
	modulo = new(big.Int).Lsh(big.NewInt(1), 256)
)

// minus is the word of a number below nought.
func minus(n uint64) api.Word { return word.Sub(nought, word.Of(n)) }

// edges are words at which bits are borrowed, lost, or of the sign.
func edges() []api.Word {
	l := []api.Word{nought, one, {2}, {3}, {7}, {1 << 63}, {most, most, most}, all, minus(2), minus(7), least, word.Sub(least, one), word.Add(least, one)}
	for i := range 4 {
		var low, full, high api.Word
		low[i], full[i], high[i] = 1, most, 1<<63
		l = append(l, low, full, high)
	}
	return l
}

// samples are the edges, and words of one to four numbers without a pattern, the same ones each time.
func samples() []api.Word {
	l := edges()
	n := uint64(0x9e3779b97f4a7c15)
	for k := range 20 {
		var w api.Word
		for i := range k%4 + 1 {
			n ^= n << 13
			n ^= n >> 7
			n ^= n << 17
			w[i] = n
		}
		l = append(l, w)
	}
	return l
}

// number is the value of a word.
func number(w api.Word) *big.Int {
	n := new(big.Int)
	for i := 3; i >= 0; i-- {
		n.Lsh(n, 64)
		n.Or(n, new(big.Int).SetUint64(w[i]))
	}
	return n
}

// signed is the value of a word as a signed one.
func signed(w api.Word) *big.Int {
	n := number(w)
	if n.Bit(255) == 1 {
		n.Sub(n, modulo)
	}
	return n
}

// same tells whether a word has a number's value modulo 2^256.
func same(w api.Word, n *big.Int) bool {
	return number(w).Cmp(new(big.Int).Mod(n, modulo)) == 0
}

// told is one call's name, its answer, and the right one.
type told struct {
	name      string
	got, want api.Word
}

func look(t *testing.T, l []told) {
	t.Helper()
	for _, c := range l {
		if c.got != c.want {
			t.Errorf("%s = %v, want %v", c.name, c.got, c.want)
		}
	}
}

func TestP21DivMod(t *testing.T) {
	for _, a := range samples() {
		for _, b := range samples() {
			q, r := new(big.Int), new(big.Int)
			if b != nought {
				q.QuoRem(number(a), number(b), r)
			}
			if g := split.Div(a, b); !same(g, q) {
				t.Errorf("Div(%v, %v) = %v, want %v", a, b, g, q)
			}
			if g := split.Mod(a, b); !same(g, r) {
				t.Errorf("Mod(%v, %v) = %v, want %v", a, b, g, r)
			}
		}
	}
}

func TestP21Edges(t *testing.T) {
	look(t, []told{
		{"Div(7, 2)", split.Div(word.Of(7), word.Of(2)), word.Of(3)},
		{"Mod(7, 2)", split.Mod(word.Of(7), word.Of(2)), one},
		{"Div(7, 0)", split.Div(word.Of(7), nought), nought},
		{"Mod(7, 0)", split.Mod(word.Of(7), nought), nought},
		{"Div(all, 0)", split.Div(all, nought), nought},
		{"Mod(all, 0)", split.Mod(all, nought), nought},
		{"Div(0, 0)", split.Div(nought, nought), nought},
		{"Mod(0, 0)", split.Mod(nought, nought), nought},
		{"Div(0, 7)", split.Div(nought, word.Of(7)), nought},
		{"Mod(0, 7)", split.Mod(nought, word.Of(7)), nought},
		{"Div(all, 1)", split.Div(all, one), all},
		{"Mod(all, 1)", split.Mod(all, one), nought},
		{"Div(all, all)", split.Div(all, all), one},
		{"Mod(all, all)", split.Mod(all, all), nought},
		{"Div(all - 1, all)", split.Div(minus(2), all), nought},
		{"Mod(all - 1, all)", split.Mod(minus(2), all), minus(2)},
		{"Div(all, all - 1)", split.Div(all, minus(2)), one},
		{"Mod(all, all - 1)", split.Mod(all, minus(2)), one},
		{"Div(all, 2^255)", split.Div(all, least), one},
		{"Mod(all, 2^255)", split.Mod(all, least), word.Sub(least, one)},
		{"Div(all, 2^64)", split.Div(all, api.Word{0, 1}), api.Word{most, most, most}},
		{"Mod(all, 2^64)", split.Mod(all, api.Word{0, 1}), api.Word{most}},
		{"Div(all, 2^192 - 1)", split.Div(all, api.Word{most, most, most}), api.Word{0, 1}},
		{"Mod(all, 2^192 - 1)", split.Mod(all, api.Word{most, most, most}), api.Word{most}},
	})
}

func TestP22SDivSMod(t *testing.T) {
	for _, a := range samples() {
		for _, b := range samples() {
			q, r := new(big.Int), new(big.Int)
			if b != nought {
				q.QuoRem(signed(a), signed(b), r) // rounded towards nought, the rest with the first one's sign
			}
			if g := split.SDiv(a, b); !same(g, q) {
				t.Errorf("SDiv(%v, %v) = %v, want %v", a, b, g, q)
			}
			if g := split.SMod(a, b); !same(g, r) {
				t.Errorf("SMod(%v, %v) = %v, want %v", a, b, g, r)
			}
		}
	}
}

func TestP22Signs(t *testing.T) {
	seven, two, three := word.Of(7), word.Of(2), word.Of(3)
	look(t, []told{
		{"SDiv(7, 2)", split.SDiv(seven, two), three},
		{"SDiv(-7, 2)", split.SDiv(minus(7), two), minus(3)},
		{"SDiv(7, -2)", split.SDiv(seven, minus(2)), minus(3)},
		{"SDiv(-7, -2)", split.SDiv(minus(7), minus(2)), three},
		{"SMod(7, 2)", split.SMod(seven, two), one},
		{"SMod(-7, 2)", split.SMod(minus(7), two), minus(1)},
		{"SMod(7, -2)", split.SMod(seven, minus(2)), one},
		{"SMod(-7, -2)", split.SMod(minus(7), minus(2)), minus(1)},
		{"SDiv(-1, 2)", split.SDiv(minus(1), two), nought},
		{"SDiv(1, -2)", split.SDiv(one, minus(2)), nought},
		{"SMod(-8, 2)", split.SMod(minus(8), two), nought},
	})
}

func TestP22Edges(t *testing.T) {
	look(t, []told{
		{"SDiv(least, -1)", split.SDiv(least, minus(1)), least},
		{"SMod(least, -1)", split.SMod(least, minus(1)), nought},
		{"SDiv(least, 1)", split.SDiv(least, one), least},
		{"SMod(least, 1)", split.SMod(least, one), nought},
		{"SDiv(least, least)", split.SDiv(least, least), one},
		{"SMod(least, least)", split.SMod(least, least), nought},
		{"SDiv(7, least)", split.SDiv(word.Of(7), least), nought},
		{"SMod(-7, least)", split.SMod(minus(7), least), minus(7)},
		{"SDiv(least, 2)", split.SDiv(least, word.Of(2)), api.Word{0, 0, 0, 3 << 62}},
		{"SDiv(-7, 0)", split.SDiv(minus(7), nought), nought},
		{"SMod(-7, 0)", split.SMod(minus(7), nought), nought},
		{"SDiv(least, 0)", split.SDiv(least, nought), nought},
		{"SMod(least, 0)", split.SMod(least, nought), nought},
		{"SDiv(0, -7)", split.SDiv(nought, minus(7)), nought},
		{"SMod(0, -7)", split.SMod(nought, minus(7)), nought},
	})
}

func TestP22NegativeLess(t *testing.T) {
	for _, a := range samples() {
		if g, w := split.Negative(a), signed(a).Sign() < 0; g != w {
			t.Errorf("Negative(%v) = %v", a, g)
		}
		for _, b := range samples() {
			if g, w := split.Less(a, b), signed(a).Cmp(signed(b)) < 0; g != w {
				t.Errorf("Less(%v, %v) = %v", a, b, g)
			}
		}
	}
}

func TestP22NegativeLessEdges(t *testing.T) {
	greatest := word.Sub(least, one)
	for _, c := range []struct {
		name      string
		got, want bool
	}{
		{"Negative(0)", split.Negative(nought), false},
		{"Negative(greatest)", split.Negative(greatest), false},
		{"Negative(least)", split.Negative(least), true},
		{"Negative(-1)", split.Negative(all), true},
		{"Negative(2^63)", split.Negative(api.Word{1 << 63}), false},
		{"Less(-1, 0)", split.Less(all, nought), true},
		{"Less(0, -1)", split.Less(nought, all), false},
		{"Less(least, greatest)", split.Less(least, greatest), true},
		{"Less(greatest, least)", split.Less(greatest, least), false},
		{"Less(-2, -1)", split.Less(minus(2), minus(1)), true},
		{"Less(-1, -2)", split.Less(minus(1), minus(2)), false},
		{"Less(1, 2)", split.Less(one, word.Of(2)), true},
		{"Less(7, 7)", split.Less(word.Of(7), word.Of(7)), false},
		{"Less(-7, -7)", split.Less(minus(7), minus(7)), false},
	} {
		if c.got != c.want {
			t.Errorf("%s = %v", c.name, c.got)
		}
	}
}

func TestP23AddModMulMod(t *testing.T) {
	l := samples()
	for i, a := range l {
		for j, b := range l {
			for _, m := range []api.Word{l[(i+j)%len(l)], l[(7*i+3*j+1)%len(l)]} {
				sum, product := new(big.Int), new(big.Int)
				if m != nought {
					sum.Mod(sum.Add(number(a), number(b)), number(m))
					product.Mod(product.Mul(number(a), number(b)), number(m))
				}
				if g := split.AddMod(a, b, m); !same(g, sum) {
					t.Errorf("AddMod(%v, %v, %v) = %v, want %v", a, b, m, g, sum)
				}
				if g := split.MulMod(a, b, m); !same(g, product) {
					t.Errorf("MulMod(%v, %v, %v) = %v, want %v", a, b, m, g, product)
				}
			}
		}
	}
}

func TestP23Edges(t *testing.T) {
	two := word.Of(2)
	look(t, []told{
		{"AddMod(1, 1, 0)", split.AddMod(one, one, nought), nought},
		{"MulMod(1, 1, 0)", split.MulMod(one, one, nought), nought},
		{"AddMod(all, all, 0)", split.AddMod(all, all, nought), nought},
		{"MulMod(all, all, 0)", split.MulMod(all, all, nought), nought},
		{"AddMod(all, all, 1)", split.AddMod(all, all, one), nought},
		{"MulMod(all, all, 1)", split.MulMod(all, all, one), nought},
		{"AddMod(all, 2, 2)", split.AddMod(all, two, two), one},
		{"AddMod(all, 1, all)", split.AddMod(all, one, all), one},
		{"AddMod(all, all, all)", split.AddMod(all, all, all), nought},
		{"AddMod(all, all, all - 1)", split.AddMod(all, all, minus(2)), two},
		{"AddMod(all, all, 7)", split.AddMod(all, all, word.Of(7)), word.Of(2)},
		{"AddMod(least, least, all)", split.AddMod(least, least, all), one},
		{"MulMod(least, 4, 7)", split.MulMod(least, word.Of(4), word.Of(7)), word.Of(4)},
		{"MulMod(all, all, all)", split.MulMod(all, all, all), nought},
		{"MulMod(all, all, all - 1)", split.MulMod(all, all, minus(2)), one},
		{"MulMod(all, all, 2^255)", split.MulMod(all, all, least), one},
		{"MulMod(all - 1, all - 1, all)", split.MulMod(minus(2), minus(2), all), one},
		{"MulMod(2^128, 2^128, all)", split.MulMod(api.Word{0, 0, 1}, api.Word{0, 0, 1}, all), one},
		{"MulMod(0, all, 7)", split.MulMod(nought, all, word.Of(7)), nought},
		{"AddMod(0, 0, 7)", split.AddMod(nought, nought, word.Of(7)), nought},
	})
}

// euclid is Euclid's way, gone without the package that is tested.
func euclid(a, b api.Word) []*big.Int {
	var l []*big.Int
	x, y := number(a), number(b)
	for x.Sign() != 0 {
		l = append(l, x)
		r := new(big.Int)
		if y.Sign() != 0 {
			r.Mod(x, y)
		}
		x, y = y, r
	}
	return l
}

// equals tells whether words are the numbers of a list.
func equals(l []api.Word, n []*big.Int) bool {
	return slices.EqualFunc(l, n, func(w api.Word, n *big.Int) bool { return number(w).Cmp(n) == 0 })
}

func TestP24Steps(t *testing.T) {
	for _, a := range samples() {
		for _, b := range samples() {
			if g, w := slices.Collect(split.Steps(a, b)), euclid(a, b); !equals(g, w) {
				t.Errorf("Steps(%v, %v) = %v, want %v", a, b, g, w)
			}
		}
	}
}

func TestP24StepsEdges(t *testing.T) {
	for _, c := range []struct {
		a, b api.Word
		want []api.Word
	}{
		{word.Of(12), word.Of(18), []api.Word{{12}, {18}, {12}, {6}}},
		{word.Of(18), word.Of(12), []api.Word{{18}, {12}, {6}}},
		{word.Of(7), word.Of(7), []api.Word{{7}, {7}}},
		{word.Of(5), word.Of(3), []api.Word{{5}, {3}, {2}, {1}}},
		{nought, nought, nil},
		{nought, word.Of(5), nil},
		{word.Of(5), nought, []api.Word{{5}}},
		{all, nought, []api.Word{all}},
		{all, one, []api.Word{all, one}},
		{minus(1), minus(2), []api.Word{minus(1), minus(2), one}},
	} {
		if g := slices.Collect(split.Steps(c.a, c.b)); !slices.Equal(g, c.want) {
			t.Errorf("Steps(%v, %v) = %v, want %v", c.a, c.b, g, c.want)
		}
	}
}

func TestP24StepsLongest(t *testing.T) {
	// words that follow one another as rabbits do go the longest way
	a, b := one, one
	many := 2
	for next := word.Add(a, b); word.Order(next, b) > 0; next = word.Add(a, b) {
		a, b = b, next
		many++
	}
	if g := len(slices.Collect(split.Steps(b, a))); g != many-1 {
		t.Errorf("it tells %d words, want %d", g, many-1)
	}
}

func TestP24StepsLeftAndAgain(t *testing.T) {
	steps := split.Steps(word.Of(12), word.Of(18))
	want := []api.Word{{12}, {18}, {12}, {6}}
	for stop := range len(want) + 2 {
		var got []api.Word
		for w := range steps {
			if len(got) == stop {
				break
			}
			got = append(got, w)
		}
		if !slices.Equal(got, want[:min(stop, len(want))]) {
			t.Errorf("left at %d, it has told %v", stop, got)
		}
	}
	calls := 0
	steps(func(api.Word) bool { calls++; return false })
	if calls != 1 {
		t.Errorf("it goes on when it is left: %d", calls)
	}
}

func TestP24StepsWithinSteps(t *testing.T) {
	steps := split.Steps(word.Of(12), word.Of(18))
	var sum api.Word
	for v := range steps {
		for w := range steps {
			sum = word.Add(sum, word.Mul(v, w))
		}
	}
	if sum != word.Of(48*48) {
		t.Errorf("gone over within itself, it tells %v", sum)
	}
}

func TestP25WhatFollows(t *testing.T) {
	for _, a := range samples() {
		for _, b := range samples() {
			if b == nought {
				continue
			}
			q, r := split.Div(a, b), split.Mod(a, b)
			if word.Order(r, b) >= 0 {
				t.Errorf("%v by %v leaves %v", a, b, r)
			}
			if g := word.Add(word.Mul(q, b), r); g != a {
				t.Errorf("%v by %v, put together again, is %v", a, b, g)
			}
			if g := word.Add(word.Mul(split.SDiv(a, b), b), split.SMod(a, b)); g != a {
				t.Errorf("%v by %v, as signed ones, put together again, is %v", a, b, g)
			}
			if split.MulMod(a, one, b) != r || split.MulMod(one, a, b) != r {
				t.Errorf("MulMod of %v and 1 by %v is not %v", a, b, r)
			}
			if split.AddMod(a, nought, b) != r || split.AddMod(nought, a, b) != r {
				t.Errorf("AddMod of %v and 0 by %v is not %v", a, b, r)
			}
		}
	}
}

func TestP25TheLastStepGoesIntoBoth(t *testing.T) {
	for _, a := range samples() {
		for _, b := range samples() {
			l := slices.Collect(split.Steps(a, b))
			if len(l) == 0 {
				continue
			}
			last := l[len(l)-1]
			if split.Mod(a, last) != nought || split.Mod(b, last) != nought {
				t.Errorf("%v, the last of %v and %v, does not go into both", last, a, b)
			}
			if want := new(big.Int).GCD(nil, nil, number(a), number(b)); number(last).Cmp(want) != 0 {
				t.Errorf("%v, the last of %v and %v, is not the greatest that does", last, a, b)
			}
		}
	}
}
