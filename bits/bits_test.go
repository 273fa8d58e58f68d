package bits_test

import (
	"math/big"
	"slices"
	"testing"

	"excise/api"
	"excise/bits"
	"excise/word"
)

const most = 1<<64 - 1

var (
	nought   api.Word
	one      = api.Word{1}
	all      = api.Word{most, most, most, most}
	least    = api.Word{0, 0, 0, 1 << 63}
	greatest = api.Word{most, most, most, most >> 1}
	modulo   = new(big.Int).Lsh(big.NewInt(1), 256)
)

// minus is the word of a number below nought.
func minus(n uint64) api.Word { return word.Sub(nought, word.Of(n)) }

// bit is the word of which just one bit is 1.
func bit(at int) api.Word {
	var w api.Word
	w[at/64] = 1 << (at % 64)
	return w
}

// samples are words with bits at each end of each number, signs at each byte, and words without a pattern, the same ones each time.
func samples() []api.Word {
	l := []api.Word{nought, one, {2}, {10}, {0x1234}, all, least, greatest, minus(2), minus(3), word.Add(least, one), {0, most, 0, most}, {most, 0, most}}
	for i := range 4 {
		var full api.Word
		full[i] = most
		l = append(l, bit(64*i), bit(64*i+63), full)
	}
	for k := range 32 {
		l = append(l, bit(8*k+7), word.Sub(bit(8*k+7), one))
	}
	n := uint64(0x9e3779b97f4a7c15)
	for range 16 {
		var w api.Word
		for i := range w {
			n ^= n << 13
			n ^= n >> 7
			n ^= n << 17
			w[i] = n
		}
		l = append(l, w)
	}
	return l
}

// far are words by which nothing is left where it was, though most of their numbers or their lowest bits are small.
func far() []api.Word {
	return []api.Word{word.Of(256), word.Of(257), word.Of(300), word.Of(511), word.Of(512), word.Of(1 << 16), word.Of(1<<16 + 1), word.Of(1 << 32), word.Of(1<<32 + 1), word.Of(1 << 63), word.Of(most), {0, 1}, {1, 1}, {8, 0, 1}, {1, 0, 0, 1}, least, minus(1), minus(255), minus(256)}
}

// number is the value of a word, made without the package that is tested.
func number(w api.Word) *big.Int {
	n := new(big.Int)
	for i := 3; i >= 0; i-- {
		n.Lsh(n, 64)
		n.Or(n, new(big.Int).SetUint64(w[i]))
	}
	return n
}

// signed is the value of a word as a signed one.
func signed(w api.Word) *big.Int {
	n := number(w)
	if n.Bit(255) == 1 {
		n.Sub(n, modulo)
	}
	return n
}

// same tells whether a word has a number's value modulo 2^256.
func same(w api.Word, n *big.Int) bool {
	return number(w).Cmp(new(big.Int).Mod(n, modulo)) == 0
}

// told is one call's name, its answer, and the right one.
type told struct {
	name      string
	got, want api.Word
}

func look(t *testing.T, l []told) {
	t.Helper()
	for _, c := range l {
		if c.got != c.want {
			t.Errorf("%s = %x, want %x", c.name, c.got, c.want)
		}
	}
}

func TestP31OfNoneOneAndMany(t *testing.T) {
	low, mid, high := word.Of(6), word.Of(3), api.Word{1, 2, 3, 4}
	look(t, []told{
		{"And()", bits.And(), all},
		{"Or()", bits.Or(), nought},
		{"Xor()", bits.Xor(), nought},
		{"And of an empty list", bits.And([]api.Word{}...), all},
		{"Or of an empty list", bits.Or([]api.Word{}...), nought},
		{"Xor of an empty list", bits.Xor([]api.Word{}...), nought},
		{"And of one", bits.And(high), high},
		{"Or of one", bits.Or(high), high},
		{"Xor of one", bits.Xor(high), high},
		{"And(6, 3)", bits.And(low, mid), word.Of(2)},
		{"Or(6, 3)", bits.Or(low, mid), word.Of(7)},
		{"Xor(6, 3)", bits.Xor(low, mid), word.Of(5)},
		{"And of the same three times", bits.And(high, high, high), high},
		{"Or of the same three times", bits.Or(high, high, high), high},
		{"Xor of the same twice", bits.Xor(high, high), nought},
		{"Xor of the same three times", bits.Xor(high, high, high), high},
		{"Xor of 1, 3 and 7", bits.Xor(one, word.Of(3), word.Of(7)), word.Of(5)},
		{"And with nought", bits.And(all, nought, all), nought},
		{"Or with all", bits.Or(nought, all, nought), all},
	})
}

func TestP31OfTwo(t *testing.T) {
	for _, a := range samples() {
		for _, b := range samples() {
			x, y := number(a), number(b)
			look(t, []told{
				{"And", bits.And(a, b), word.Sub(word.Add(a, b), bits.Or(a, b))},
				{"Or", bits.Or(a, b), word.Add(bits.Xor(a, b), bits.And(a, b))},
			})
			if g := bits.And(a, b); !same(g, new(big.Int).And(x, y)) {
				t.Errorf("And(%x, %x) = %x", a, b, g)
			}
			if g := bits.Or(a, b); !same(g, new(big.Int).Or(x, y)) {
				t.Errorf("Or(%x, %x) = %x", a, b, g)
			}
			if g := bits.Xor(a, b); !same(g, new(big.Int).Xor(x, y)) {
				t.Errorf("Xor(%x, %x) = %x", a, b, g)
			}
		}
	}
}

func TestP31OfLonger(t *testing.T) {
	l, few := samples(), []api.Word{}
	for i := range l {
		few = append(few, bits.Or(l[i], bits.Not(bit(i)))) // each lacks one bit at most, so that And of many is not soon nought
	}
	and, or, xor := number(all), new(big.Int), new(big.Int)
	for i := range l {
		and.And(and, number(few[i]))
		or.Or(or, number(l[i]))
		xor.Xor(xor, number(l[i]))
		if g := bits.And(few[:i+1]...); !same(g, and) {
			t.Errorf("And of %d words = %x", i+1, g)
		}
		if g := bits.Or(l[:i+1]...); !same(g, or) {
			t.Errorf("Or of %d words = %x", i+1, g)
		}
		if g := bits.Xor(l[:i+1]...); !same(g, xor) {
			t.Errorf("Xor of %d words = %x", i+1, g)
		}
	}
	if !slices.Equal(l, samples()) {
		t.Error("words that were handed in have changed")
	}
}

func TestP31Not(t *testing.T) {
	look(t, []told{
		{"Not(0)", bits.Not(nought), all},
		{"Not(all)", bits.Not(all), nought},
		{"Not(least)", bits.Not(least), greatest},
		{"Not(2)", bits.Not(word.Of(2)), minus(3)},
		{"Not of numbers", bits.Not(api.Word{0, most, 0, most}), api.Word{most, 0, most}},
	})
	for _, a := range samples() {
		if g := bits.Not(a); !same(g, new(big.Int).Not(number(a))) {
			t.Errorf("Not(%x) = %x", a, g)
		}
	}
}

func TestP32Near(t *testing.T) {
	for _, a := range samples() {
		for n := range uint(256) {
			by := word.Of(uint64(n))
			if g := bits.Shl(by, a); !same(g, new(big.Int).Lsh(number(a), n)) {
				t.Errorf("Shl(%d, %x) = %x", n, a, g)
			}
			if g := bits.Shr(by, a); !same(g, new(big.Int).Rsh(number(a), n)) {
				t.Errorf("Shr(%d, %x) = %x", n, a, g)
			}
			if g := bits.Sar(by, a); !same(g, new(big.Int).Rsh(signed(a), n)) {
				t.Errorf("Sar(%d, %x) = %x", n, a, g)
			}
		}
	}
}

func TestP32Far(t *testing.T) {
	for _, a := range samples() {
		sign := nought
		if a[3]>>63 == 1 {
			sign = all
		}
		for _, by := range far() {
			if g := bits.Shl(by, a); g != nought {
				t.Errorf("Shl(%x, %x) = %x", by, a, g)
			}
			if g := bits.Shr(by, a); g != nought {
				t.Errorf("Shr(%x, %x) = %x", by, a, g)
			}
			if g := bits.Sar(by, a); g != sign {
				t.Errorf("Sar(%x, %x) = %x", by, a, g)
			}
		}
	}
}

func TestP32UpDownEdges(t *testing.T) {
	mix := api.Word{1<<63 | 1, 2, 3, 1<<63 | 4}
	look(t, []told{
		{"Shl(0)", bits.Shl(nought, mix), mix},
		{"Shl(1)", bits.Shl(one, mix), api.Word{2, 5, 6, 8}},
		{"Shl(63)", bits.Shl(word.Of(63), mix), api.Word{1 << 63, 1 << 62, 1<<63 | 1, 1}},
		{"Shl(64)", bits.Shl(word.Of(64), mix), api.Word{0, 1<<63 | 1, 2, 3}},
		{"Shl(65)", bits.Shl(word.Of(65), mix), api.Word{0, 2, 5, 6}},
		{"Shl(255)", bits.Shl(word.Of(255), mix), least},
		{"Shl(255, 3)", bits.Shl(word.Of(255), word.Of(3)), least},
		{"Shl(255, 2)", bits.Shl(word.Of(255), word.Of(2)), nought},
		{"Shl(256)", bits.Shl(word.Of(256), mix), nought},
		{"Shr(0)", bits.Shr(nought, mix), mix},
		{"Shr(1)", bits.Shr(one, mix), api.Word{1 << 62, 1<<63 | 1, 1, 1<<62 | 2}},
		{"Shr(1, 5)", bits.Shr(one, word.Of(5)), word.Of(2)},
		{"Shr(63)", bits.Shr(word.Of(63), mix), api.Word{5, 6, 8, 1}},
		{"Shr(64)", bits.Shr(word.Of(64), mix), api.Word{2, 3, 1<<63 | 4}},
		{"Shr(65)", bits.Shr(word.Of(65), mix), api.Word{1<<63 | 1, 1, 1<<62 | 2}},
		{"Shr(255)", bits.Shr(word.Of(255), mix), one},
		{"Shr(255, greatest)", bits.Shr(word.Of(255), greatest), nought},
		{"Shr(256)", bits.Shr(word.Of(256), mix), nought},
	})
}

func TestP32SarEdges(t *testing.T) {
	low, high := api.Word{1, 2, 3, 1 << 62}, api.Word{1, 2, 3, 1 << 63}
	look(t, []told{
		{"Sar(0) of 0", bits.Sar(nought, low), low},
		{"Sar(0) of 1", bits.Sar(nought, high), high},
		{"Sar(1) of 0", bits.Sar(one, low), api.Word{0, 1<<63 | 1, 1, 1 << 61}},
		{"Sar(1) of 1", bits.Sar(one, high), api.Word{0, 1<<63 | 1, 1, 3 << 62}},
		{"Sar(63) of 1", bits.Sar(word.Of(63), high), api.Word{4, 6, 0, most}},
		{"Sar(64) of 0", bits.Sar(word.Of(64), low), api.Word{2, 3, 1 << 62}},
		{"Sar(64) of 1", bits.Sar(word.Of(64), high), api.Word{2, 3, 1 << 63, most}},
		{"Sar(65) of 1", bits.Sar(word.Of(65), high), api.Word{1<<63 | 1, 1, 3 << 62, most}},
		{"Sar(254) of 0", bits.Sar(word.Of(254), low), one},
		{"Sar(255) of 0", bits.Sar(word.Of(255), low), nought},
		{"Sar(255) of 1", bits.Sar(word.Of(255), high), all},
		{"Sar(256) of 0", bits.Sar(word.Of(256), low), nought},
		{"Sar(256) of 1", bits.Sar(word.Of(256), high), all},
		{"Sar(300, -1)", bits.Sar(word.Of(300), all), all},
		{"Sar(1, -3)", bits.Sar(one, minus(3)), minus(2)},
		{"Sar(-1, -3)", bits.Sar(all, minus(3)), all},
		{"Sar(-1, 3)", bits.Sar(all, word.Of(3)), nought},
	})
}

func TestP33Byte(t *testing.T) {
	for _, a := range samples() {
		for k, c := range number(a).FillBytes(make([]byte, 32)) {
			if g := bits.Byte(word.Of(uint64(k)), a); g != word.Of(uint64(c)) {
				t.Errorf("Byte(%d, %x) = %x, want %x", k, a, g, c)
			}
		}
		for _, at := range append(far(), word.Of(32), word.Of(33), word.Of(64), word.Of(255)) {
			if g := bits.Byte(at, a); g != nought {
				t.Errorf("Byte(%x, %x) = %x", at, a, g)
			}
		}
	}
}

func TestP33ByteEdges(t *testing.T) {
	a := api.Word{0x1234, 0, 0, 0xab << 56}
	look(t, []told{
		{"Byte(0)", bits.Byte(nought, a), word.Of(0xab)},
		{"Byte(1)", bits.Byte(one, a), nought},
		{"Byte(30)", bits.Byte(word.Of(30), a), word.Of(0x12)},
		{"Byte(31)", bits.Byte(word.Of(31), a), word.Of(0x34)},
		{"Byte(32)", bits.Byte(word.Of(32), all), nought},
		{"Byte(2^64 + 31)", bits.Byte(api.Word{31, 1}, all), nought},
		{"Byte(2^255 + 31)", bits.Byte(api.Word{31, 0, 0, 1 << 63}, all), nought},
	})
}

func TestP33Extend(t *testing.T) {
	for _, a := range samples() {
		for k := range uint(31) {
			above := new(big.Int).Lsh(big.NewInt(1), 8*k+8)
			want := new(big.Int).Mod(number(a), above)
			if number(a).Bit(int(8*k+7)) == 1 {
				want.Sub(want, above)
			}
			if g := bits.Extend(word.Of(uint64(k)), a); !same(g, want) {
				t.Errorf("Extend(%d, %x) = %x", k, a, g)
			}
		}
		for _, at := range append(far(), word.Of(31), word.Of(32), word.Of(33), word.Of(255), api.Word{0, 0, 1}) {
			if g := bits.Extend(at, a); g != a {
				t.Errorf("Extend(%x, %x) = %x", at, a, g)
			}
		}
	}
}

func TestP33ExtendEdges(t *testing.T) {
	mix := api.Word{0x80, 0, 0, 0x40 << 48}
	look(t, []told{
		{"Extend(0, 0xff)", bits.Extend(nought, word.Of(0xff)), all},
		{"Extend(0, 0x7f)", bits.Extend(nought, word.Of(0x7f)), word.Of(0x7f)},
		{"Extend(0, 0xff7f)", bits.Extend(nought, word.Of(0xff7f)), word.Of(0x7f)},
		{"Extend(0, 0x80)", bits.Extend(nought, word.Of(0x80)), minus(128)},
		{"Extend(1, 0x80)", bits.Extend(one, word.Of(0x80)), word.Of(0x80)},
		{"Extend(7, 2^63)", bits.Extend(word.Of(7), bit(63)), api.Word{1 << 63, most, most, most}},
		{"Extend(8, 2^63)", bits.Extend(word.Of(8), bit(63)), bit(63)},
		{"Extend(30) of the bit 246", bits.Extend(word.Of(30), mix), mix},
		{"Extend(30) of the bit 247", bits.Extend(word.Of(30), bit(247)), api.Word{0, 0, 0, 0xff80 << 48}},
		{"Extend(30) of the bit 248", bits.Extend(word.Of(30), bit(248)), nought},
		{"Extend(31, 5)", bits.Extend(word.Of(31), word.Of(5)), word.Of(5)},
		{"Extend(31, 0xff)", bits.Extend(word.Of(31), word.Of(0xff)), word.Of(0xff)},
		{"Extend(32, 0xff)", bits.Extend(word.Of(32), word.Of(0xff)), word.Of(0xff)},
		{"Extend(2^64, 0xff)", bits.Extend(api.Word{0, 1}, word.Of(0xff)), word.Of(0xff)},
		{"Extend(all, 0xff)", bits.Extend(all, word.Of(0xff)), word.Of(0xff)},
	})
}

func TestP34Len(t *testing.T) {
	for _, a := range samples() {
		if g, w := bits.Len(a), number(a).BitLen(); g != w {
			t.Errorf("Len(%x) = %d, want %d", a, g, w)
		}
	}
	for at := range 256 {
		if g := bits.Len(bit(at)); g != at+1 {
			t.Errorf("Len of the bit %d = %d", at, g)
		}
		if g := bits.Len(bits.Or(bit(at), one)); g != at+1 {
			t.Errorf("Len of the bits 0 and %d = %d", at, g)
		}
	}
	if bits.Len(nought) != 0 || bits.Len(all) != 256 || bits.Len(word.Of(255)) != 8 || bits.Len(word.Of(256)) != 9 {
		t.Errorf("Len of nought, all, 255, 256: %d, %d, %d, %d", bits.Len(nought), bits.Len(all), bits.Len(word.Of(255)), bits.Len(word.Of(256)))
	}
}

// ones are the places of a word's bits that are 1, rising.
func ones(a api.Word) []int {
	var l []int
	n := number(a)
	for at := range 256 {
		if n.Bit(at) == 1 {
			l = append(l, at)
		}
	}
	return l
}

func TestP34Each(t *testing.T) {
	for _, a := range samples() {
		if g, w := slices.Collect(bits.Each(a)), ones(a); !slices.Equal(g, w) {
			t.Errorf("Each(%x) = %v, want %v", a, g, w)
		}
	}
	for at := range 256 {
		if g := slices.Collect(bits.Each(bit(at))); !slices.Equal(g, []int{at}) {
			t.Errorf("Each of the bit %d = %v", at, g)
		}
	}
	if g := slices.Collect(bits.Each(nought)); len(g) != 0 {
		t.Errorf("Each(0) = %v", g)
	}
	if g := slices.Collect(bits.Each(all)); len(g) != 256 || g[0] != 0 || g[255] != 255 {
		t.Errorf("Each(all) = %v", g)
	}
	if g := slices.Collect(bits.Each(word.Of(10))); !slices.Equal(g, []int{1, 3}) {
		t.Errorf("Each(10) = %v", g)
	}
}

func TestP34EachLeftAndAgain(t *testing.T) {
	a := api.Word{1 | 1<<63, 1 << 5, 0, 1 | 1<<63}
	places := []int{0, 63, 69, 192, 255}
	each := bits.Each(a)
	a[0] = 7
	for stop := range len(places) + 1 {
		var got []int
		for at := range each {
			if len(got) == stop {
				break
			}
			got = append(got, at)
		}
		if !slices.Equal(got, places[:stop]) {
			t.Errorf("left at %d, it has told %v", stop, got)
		}
		calls := 0
		each(func(int) bool { calls++; return calls < stop })
		if calls != max(stop, 1) {
			t.Errorf("left at %d, it has gone on to %d", stop, calls)
		}
	}
	if g := slices.Collect(each); !slices.Equal(g, places) {
		t.Errorf("gone over again, it tells %v", g)
	}
}

func TestP34EachWithinEach(t *testing.T) {
	each := bits.Each(api.Word{1<<1 | 1<<2, 0, 0, 1 << 8})
	sum := 0
	for p := range each {
		for q := range each {
			sum += p * q
		}
	}
	if sum != 203*203 {
		t.Errorf("gone over within itself, it tells %d", sum)
	}
}

func TestP35ShiftsOfShifts(t *testing.T) {
	for _, a := range samples() {
		for m := uint64(0); m <= 256; m += 8 {
			for _, n := range []uint64{0, 1, 7, 63, 64, 65, 128, 255, 256} {
				x, y, both := word.Of(m), word.Of(n), word.Of(m+n)
				look(t, []told{
					{"Shl of Shl", bits.Shl(x, bits.Shl(y, a)), bits.Shl(both, a)},
					{"Shr of Shr", bits.Shr(x, bits.Shr(y, a)), bits.Shr(both, a)},
					{"Sar of Sar", bits.Sar(x, bits.Sar(y, a)), bits.Sar(both, a)},
				})
			}
		}
	}
}

func TestP35NotOfAnd(t *testing.T) {
	l := samples()
	for i, a := range l {
		for j, b := range l {
			c := l[(i+j)%len(l)]
			look(t, []told{
				{"Not of And", bits.Not(bits.And(a, b, c)), bits.Or(bits.Not(a), bits.Not(b), bits.Not(c))},
				{"Not of Or", bits.Not(bits.Or(a, b, c)), bits.And(bits.Not(a), bits.Not(b), bits.Not(c))},
			})
		}
	}
	if bits.Not(bits.And()) != bits.Or() {
		t.Error("Not of And of none is not Or of none")
	}
}

func TestP35PowersOfTwo(t *testing.T) {
	for _, a := range samples() {
		for at := range 256 {
			by, power := word.Of(uint64(at)), bit(at)
			look(t, []told{
				{"Shl", bits.Shl(by, a), word.Mul(a, power)},
			})
			if g := bits.Shr(by, a); !same(g, new(big.Int).Quo(number(a), number(power))) {
				t.Errorf("Shr(%d, %x) = %x is no quotient", at, a, g)
			}
		}
	}
}

func TestP35ExtendAgain(t *testing.T) {
	for _, a := range samples() {
		for k := range uint64(33) {
			once := bits.Extend(word.Of(k), a)
			if g := bits.Extend(word.Of(k), once); g != once {
				t.Errorf("Extend(%d, %x), once more, is %x", k, once, g)
			}
		}
	}
}

func TestP35EachLaidTogether(t *testing.T) {
	for _, a := range samples() {
		var l []api.Word
		for at := range bits.Each(a) {
			l = append(l, bits.Shl(word.Of(uint64(at)), one))
		}
		look(t, []told{
			{"Or of Each", bits.Or(l...), a},
			{"Xor of Each", bits.Xor(l...), a},
			{"the sum of Each", word.Add(l...), a},
		})
	}
}
