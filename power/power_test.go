package power_test

import (
	"math"
	"math/big"
	"slices"
	"testing"

	"excise/api"
	"excise/bits"
	"excise/power"
	"excise/word"
)

const most = 1<<64 - 1

var (
	nought api.Word
	one    = api.Word{1}
	two    = api.Word{2}
	three  = api.Word{3}
	all    = api.Word{most, most, most, most}
	least  = api.Word{0, 0, 0, 1 << 63}
	modulo = new(big.Int).Lsh(big.NewInt(1), 256)
)

// bit is the word of which just one bit is 1.
func bit(at int) api.Word {
	var w api.Word
	w[at/64] = 1 << (at % 64)
	return w
}

// samples are words small and great, even and odd, with bits at each end of each number, and words without a pattern, the same ones each time.
func samples() []api.Word {
	l := []api.Word{nought, one, two, three, {4}, {5}, {10}, {255}, {256}, {257}, all, least, word.Sub(all, one), word.Sub(least, one), word.Add(least, one)}
	for i := range 4 {
		var full api.Word
		full[i] = most
		l = append(l, bit(64*i), bit(64*i+63), full)
	}
	n := uint64(0x9e3779b97f4a7c15)
	for k := range 16 {
		var w api.Word
		for i := range k%4 + 1 {
			n ^= n << 13
			n ^= n >> 7
			n ^= n << 17
			w[i] = n
		}
		l = append(l, w)
	}
	return l
}

// number is the value of a word, made without the package that is tested.
func number(w api.Word) *big.Int {
	n := new(big.Int)
	for i := 3; i >= 0; i-- {
		n.Lsh(n, 64)
		n.Or(n, new(big.Int).SetUint64(w[i]))
	}
	return n
}

// same tells whether a word has a number's value modulo 2^256.
func same(w api.Word, n *big.Int) bool {
	return number(w).Cmp(new(big.Int).Mod(n, modulo)) == 0
}

// told is one call's name, its answer, and the right one.
type told struct {
	name      string
	got, want api.Word
}

func look(t *testing.T, l []told) {
	t.Helper()
	for _, c := range l {
		if c.got != c.want {
			t.Errorf("%s = %x, want %x", c.name, c.got, c.want)
		}
	}
}

func TestP41Exp(t *testing.T) {
	for _, a := range samples() {
		for _, n := range samples() {
			want := new(big.Int).Exp(number(a), number(n), modulo)
			if g := power.Exp(a, n); !same(g, want) {
				t.Errorf("Exp(%x, %x) = %x, want %x", a, n, g, want)
			}
		}
		product := one
		for n := range uint64(300) {
			if g := power.Exp(a, word.Of(n)); g != product {
				t.Errorf("Exp(%x, %d) = %x, want %x", a, n, g, product)
			}
			product = word.Mul(product, a)
		}
	}
}

func TestP41ExpEdges(t *testing.T) {
	look(t, []told{
		{"Exp(2, 10)", power.Exp(two, word.Of(10)), word.Of(1024)},
		{"Exp(10, 2)", power.Exp(word.Of(10), two), word.Of(100)},
		{"Exp(0, 0)", power.Exp(nought, nought), one},
		{"Exp(all, 0)", power.Exp(all, nought), one},
		{"Exp(0, 1)", power.Exp(nought, one), nought},
		{"Exp(0, all)", power.Exp(nought, all), nought},
		{"Exp(0, 2^192)", power.Exp(nought, bit(192)), nought},
		{"Exp(1, all)", power.Exp(one, all), one},
		{"Exp(all, 1)", power.Exp(all, one), all},
		{"Exp(all, 2)", power.Exp(all, two), one},
		{"Exp(all, all)", power.Exp(all, all), all},
		{"Exp(all, 2^255)", power.Exp(all, least), one},
		{"Exp(2, 64)", power.Exp(two, word.Of(64)), bit(64)},
		{"Exp(2, 255)", power.Exp(two, word.Of(255)), least},
		{"Exp(2, 256)", power.Exp(two, word.Of(256)), nought},
		{"Exp(2, 2^64)", power.Exp(two, bit(64)), nought},
		{"Exp(2, 2^64 + 1)", power.Exp(two, api.Word{1, 1}), nought},
		{"Exp(2, 2^255 + 10)", power.Exp(two, api.Word{10, 0, 0, 1 << 63}), nought},
		{"Exp(2^128, 2)", power.Exp(bit(128), two), nought},
		{"Exp(2^85, 3)", power.Exp(bit(85), three), least},
		{"Exp(3, 2^254)", power.Exp(three, bit(254)), one},
		{"Exp(3, 2^256 - 1) times 3", word.Mul(power.Exp(three, all), three), one},
	})
}

func TestP41Wide(t *testing.T) {
	for _, a := range samples() {
		if g, w := power.Wide(a), len(number(a).Bytes()); g != w {
			t.Errorf("Wide(%x) = %d, want %d", a, g, w)
		}
	}
	for at := range 256 {
		want := at/8 + 1
		if g := power.Wide(bit(at)); g != want {
			t.Errorf("Wide of the bit %d = %d, want %d", at, g, want)
		}
		if g := power.Wide(bits.Or(bit(at), one)); g != want {
			t.Errorf("Wide of the bits 0 and %d = %d, want %d", at, g, want)
		}
		below := (at + 7) / 8
		if g := power.Wide(word.Sub(bit(at), one)); g != below {
			t.Errorf("Wide of 2^%d - 1 = %d, want %d", at, g, below)
		}
	}
}

func TestP41WideEdges(t *testing.T) {
	for _, c := range []struct {
		in   api.Word
		want int
	}{
		{nought, 0}, {one, 1}, {word.Of(255), 1}, {word.Of(256), 2}, {word.Of(65535), 2}, {word.Of(65536), 3},
		{word.Of(most), 8}, {bit(64), 9}, {api.Word{0, 0, 0, 1}, 25}, {bit(247), 31}, {bit(248), 32}, {least, 32}, {all, 32},
	} {
		if g := power.Wide(c.in); g != c.want {
			t.Errorf("Wide(%x) = %d, want %d", c.in, g, c.want)
		}
	}
}

// numbered is a power with its number.
type numbered struct {
	n int
	p api.Word
}

// firstPowers are so many powers of a word with their numbers, made by products alone.
func firstPowers(a api.Word, many int) []numbered {
	l, product := []numbered{}, one
	for n := range many {
		l = append(l, numbered{n, product})
		product = word.Mul(product, a)
	}
	return l
}

// gone is all that Powers goes over.
func gone(a api.Word, many int) []numbered {
	l := []numbered{}
	for n, p := range power.Powers(a, many) {
		l = append(l, numbered{n, p})
	}
	return l
}

func TestP42Powers(t *testing.T) {
	for _, a := range samples() {
		for _, many := range []int{1, 2, 3, 64, 255, 256} {
			if g, w := gone(a, many), firstPowers(a, many); !slices.Equal(g, w) {
				t.Errorf("Powers(%x, %d) = %x, want %x", a, many, g, w)
			}
		}
	}
	if g := gone(three, 3); !slices.Equal(g, []numbered{{0, one}, {1, three}, {2, word.Of(9)}}) {
		t.Errorf("Powers(3, 3) = %x", g)
	}
	if g := gone(nought, 3); !slices.Equal(g, []numbered{{0, one}, {1, nought}, {2, nought}}) {
		t.Errorf("Powers(0, 3) = %x", g)
	}
	if g := gone(two, 256); g[255] != (numbered{255, least}) {
		t.Errorf("the last of Powers(2, 256) = %x", g[255])
	}
}

func TestP42PowersFewerAndMore(t *testing.T) {
	for _, a := range []api.Word{nought, one, three, all} {
		for _, many := range []int{0, -1, -2, -256, math.MinInt32, math.MinInt, math.MinInt + 1} {
			if g := gone(a, many); len(g) != 0 {
				t.Errorf("Powers(%x, %d) = %x", a, many, g)
			}
		}
		for _, many := range []int{257, 258, 512, 1 << 16, math.MaxInt32, 1 << 32, 1<<32 + 3, math.MaxInt} {
			if g := gone(a, many); !slices.Equal(g, firstPowers(a, 256)) {
				t.Errorf("Powers(%x, %d) are %d", a, many, len(g))
			}
		}
	}
}

func TestP42PowersLeftAndAgain(t *testing.T) {
	a := three
	powers, want := power.Powers(a, 5), firstPowers(three, 5)
	a[0] = 9
	for stop := range 6 {
		got := []numbered{}
		for n, p := range powers {
			if n == stop {
				break
			}
			got = append(got, numbered{n, p})
		}
		if !slices.Equal(got, want[:stop]) {
			t.Errorf("left at %d, it has told %x", stop, got)
		}
		calls := 0
		powers(func(int, api.Word) bool { calls++; return calls < stop })
		if calls != min(max(stop, 1), 5) {
			t.Errorf("left at %d, it has gone on to %d", stop, calls)
		}
	}
	pairs, sum := 0, uint64(0)
	for _, p := range powers {
		for _, q := range powers {
			pairs++
			sum += p[0] * q[0]
		}
	}
	if pairs != 25 || sum != 121*121 {
		t.Errorf("gone over within itself, it tells %d pairs, %d", pairs, sum)
	}
}

func TestP42SquaresEdges(t *testing.T) {
	look(t, []told{
		{"Squares(3)", power.Squares(three), one},
		{"Squares of an empty list", power.Squares(three, []bool{}...), one},
		{"Squares of nil", power.Squares(three, []bool(nil)...), one},
		{"Squares(0)", power.Squares(nought), one},
		{"Squares(3, true)", power.Squares(three, true), three},
		{"Squares(3, false)", power.Squares(three, false), one},
		{"Squares(3, true, false)", power.Squares(three, true, false), word.Of(9)},
		{"Squares(3, false, true)", power.Squares(three, false, true), three},
		{"Squares(3, true, true)", power.Squares(three, true, true), word.Of(27)},
		{"Squares(3, true, false, true)", power.Squares(three, true, false, true), word.Of(243)},
		{"Squares(3, true, true, false)", power.Squares(three, true, true, false), word.Of(729)},
		{"Squares(0, false, false)", power.Squares(nought, false, false), one},
		{"Squares(0, false, true, false)", power.Squares(nought, false, true, false), nought},
		{"Squares(0, true)", power.Squares(nought, true), nought},
		{"Squares(2, eight truths)", power.Squares(two, true, true, true, true, true, true, true, true), least},
		{"Squares(2, true, eight lies)", power.Squares(two, true, false, false, false, false, false, false, false, false), nought},
		{"Squares(all, true, false)", power.Squares(all, true, false), one},
		{"Squares(all, true, true)", power.Squares(all, true, true), all},
	})
}

// truths are so many truths without a pattern, the same ones each time.
func truths(many int) []bool {
	l := []bool{}
	n := uint64(0x2545f4914f6cdd1d)
	for range many {
		n ^= n << 13
		n ^= n >> 7
		n ^= n << 17
		l = append(l, n>>40&1 == 1)
	}
	return l
}

func TestP42SquaresOfMany(t *testing.T) {
	l := truths(700)
	for _, a := range samples() {
		product := one
		for i, once := range l {
			product = word.Mul(product, product)
			if once {
				product = word.Mul(product, a)
			}
			if i%7 == 0 || i < 20 {
				if g := power.Squares(a, l[:i+1]...); g != product {
					t.Errorf("Squares of %x and %d truths = %x, want %x", a, i+1, g, product)
				}
			}
		}
	}
	if !slices.Equal(l, truths(700)) {
		t.Error("truths that were handed in have changed")
	}
}

func TestP43SumsAndProducts(t *testing.T) {
	small := []api.Word{nought, one, two, three, {7}, {255}, {256}, {most}, {most, most >> 1}, bit(100)} // no sum and no product of two runs over
	for _, a := range samples() {
		for _, m := range small {
			for _, n := range small {
				if power.Exp(a, word.Add(m, n)) != word.Mul(power.Exp(a, m), power.Exp(a, n)) {
					t.Errorf("%x: the power of the sum of %x and %x is not the product of powers", a, m, n)
				}
				if power.Exp(a, word.Mul(m, n)) != power.Exp(power.Exp(a, m), n) {
					t.Errorf("%x: the power of the product of %x and %x is not the power of a power", a, m, n)
				}
			}
		}
		if power.Exp(a, two) != word.Mul(a, a) {
			t.Errorf("the power 2 of %x is not its product with itself", a)
		}
	}
}

func TestP43SquaresOfBits(t *testing.T) {
	for _, a := range samples() {
		for _, n := range samples() {
			l, whole := []bool{}, []bool{}
			for at := 255; at >= 0; at-- {
				whole = append(whole, number(n).Bit(at) == 1)
			}
			l = append(l, whole[256-number(n).BitLen():]...)
			if g := power.Exp(a, n); power.Squares(a, l...) != g || power.Squares(a, whole...) != g {
				t.Errorf("Squares of %x and the bits of %x = %x, %x, want %x", a, n, power.Squares(a, l...), power.Squares(a, whole...), g)
			}
		}
	}
}
