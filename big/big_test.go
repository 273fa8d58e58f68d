package big_test

import (
	"bytes"
	"encoding/hex"
	"iter"
	stdbig "math/big"
	"slices"
	"strings"
	"testing"

	"excise/api"
	"excise/big"
)

// raw is the bytes of digits, blanks left out.
func raw(t *testing.T, s string) []byte {
	t.Helper()
	b, err := hex.DecodeString(strings.ReplaceAll(s, " ", ""))
	if err != nil {
		t.Fatal(err)
	}
	return b
}

// noise tells numbers without a pattern, the same ones each time.
func noise() func() int {
	n := uint64(0x9e3779b97f4a7c15)
	return func() int {
		n ^= n << 13
		n ^= n >> 7
		n ^= n << 17
		return int(n >> 33)
	}
}

// some is so many bytes without a pattern.
func some(many int) []byte {
	next, b := noise(), make([]byte, many)
	for i := range b {
		b[i] = byte(next())
	}
	return b
}

// mixed is at most so many bytes: without a pattern, all but few of them alike, or with edges of digits.
func mixed(next func() int, most int) []byte {
	b := make([]byte, next()%(most+1))
	edges := []byte{0, 0xff, 0x80, 0x7f, 1}
	kind, fill := next()%4, edges[next()%2]
	for i := range b {
		switch kind {
		case 0:
			b[i] = byte(next())
		case 1:
			b[i] = fill
		case 2:
			b[i] = edges[next()%5]
		case 3:
			if i%8 != 0 {
				b[i] = b[i-1] & 0x80 >> 7 * 0xff
			} else {
				b[i] = edges[next()%5]
			}
		}
	}
	if len(b) > 0 && kind != 0 {
		b[next()%len(b)] ^= byte(next())
	}
	return b
}

// samples are numbers of many lengths, small ones, all of one bit, and such with noughts ahead.
func samples() [][]byte {
	l := [][]byte{nil, {}, {0}, {0, 0, 0}, {1}, {0, 1}, {2}, {3}, {7}, {10}, {127}, {128}, {255}, {1, 0}, {1, 1}, {255, 255}}
	for _, many := range []int{7, 8, 9, 15, 16, 17, 24, 31, 32, 33, 64, 127, 128} {
		high := make([]byte, many)
		high[0] = 0x80
		one := make([]byte, many)
		one[0] = 1
		last := bytes.Clone(one)
		last[many-1]++
		l = append(l, some(many), high, one, last, bytes.Repeat([]byte{0xff}, many), append(make([]byte, many/2), some(many-many/2)...))
	}
	return l
}

// value is a number's, of the library's kind.
func value(b []byte) *stdbig.Int { return new(stdbig.Int).SetBytes(b) }

// left is what is left of a power, as many bytes as the modulus has, made by the library.
func left(a, n, m []byte) []byte {
	l := make([]byte, len(m))
	if value(m).Sign() == 0 {
		return l
	}
	return new(stdbig.Int).Exp(value(a), value(n), value(m)).FillBytes(l)
}

// looked asks Power, and holds it against the library.
func looked(t *testing.T, a, n, m []byte) {
	t.Helper()
	g, errno := big.Power(a, n, m)
	if w := left(a, n, m); !bytes.Equal(g, w) || errno != api.OK {
		t.Fatalf("Power(%x, %x, %x) = %x, %v, want %x", a, n, m, g, errno, w)
	}
}

// restLooked asks Rest, and holds it against the library.
func restLooked(t *testing.T, a, m []byte) {
	t.Helper()
	g, errno := big.Rest(a, m)
	if w := left(a, []byte{1}, m); !bytes.Equal(g, w) || errno != api.OK {
		t.Fatalf("Rest(%x, %x) = %x, %v, want %x", a, m, g, errno, w)
	}
}

func TestP71PowerEdges(t *testing.T) {
	for _, c := range []struct{ a, n, m, want string }{
		{"03", "05", "07", "05"},
		{"02", "00", "01", "00"},
		{"02", "", "01", "00"},
		{"02", "03", "", ""},
		{"02", "09", "0100", "0000"},
		{"02", "08", "0100", "0000"},
		{"02", "07", "0100", "0080"},
		{"", "", "", ""},
		{"", "", "00", "00"},
		{"", "", "01", "00"},
		{"", "", "02", "01"},
		{"00", "00", "02", "01"},
		{"00", "01", "02", "00"},
		{"00", "ff", "0007", "0000"},
		{"05", "", "000000", "000000"},
		{"05", "0000", "000003", "000001"},
		{"07", "01", "07", "00"},
		{"0e", "03", "07", "00"},
		{"08", "ffffffffffffffffff", "07", "01"},
		{"06", "ffffffffffffffffff", "07", "06"},
		{"06", "fffffffffffffffffe", "07", "01"},
		{"02", "40", "00 80 00 00 00 00 00 00 00", "00 00 00 00 00 00 00 00 00"},
		{"02", "40", "01 00 00 00 00 00 00 00 01", "01 00 00 00 00 00 00 00 00"},
		{"02", "41", "01 00 00 00 00 00 00 00 01", "00 ff ff ff ff ff ff ff ff"},
		{"ff ff ff ff ff ff ff ff", "02", "01 00 00 00 00 00 00 00 00", "00 00 00 00 00 00 00 00 01"},
		{"00 00 03", "00 00 05", "00 00 07", "00 00 05"},
	} {
		g, errno := big.Power(raw(t, c.a), raw(t, c.n), raw(t, c.m))
		if !bytes.Equal(g, raw(t, c.want)) || errno != api.OK {
			t.Errorf("Power(%s, %s, %s) = %x, %v, want %s", c.a, c.n, c.m, g, errno, c.want)
		}
	}
	if g, errno := big.Power(nil, nil, nil); len(g) != 0 || errno != api.OK {
		t.Errorf("Power of none = %x, %v", g, errno)
	}
}

func TestP71Power(t *testing.T) {
	l := samples()
	for i, a := range l {
		for j, m := range l {
			looked(t, a, l[(i*7+j*3)%20], m)
		}
		looked(t, a, a, l[len(l)-1-i])
	}
	for _, n := range l {
		for _, m := range l[len(l)-12:] {
			looked(t, some(128), n, m)
		}
	}
}

func TestP71PowerOfSmall(t *testing.T) {
	for m := range 20 {
		for a := range 20 {
			for n := range 12 {
				looked(t, []byte{byte(a)}, []byte{byte(n)}, []byte{byte(m)})
			}
		}
	}
}

func TestP71PowerOfMixed(t *testing.T) {
	next := noise()
	for range 40000 {
		looked(t, mixed(next, 40), mixed(next, 2), mixed(next, 40))
	}
	for range 1000 {
		looked(t, mixed(next, 128), mixed(next, 16), mixed(next, 128))
	}
}

func TestP71ModulusOfEachWidth(t *testing.T) {
	a := bytes.Repeat([]byte{0xff}, 128)
	for many := range 129 {
		for _, fill := range []byte{0, 1, 0x80, 0xff} {
			m := bytes.Repeat([]byte{fill}, many)
			looked(t, a, []byte{3}, m)
			looked(t, []byte{3}, a, m)
			restLooked(t, a, m)
			if many > 0 {
				m[many-1] ^= 1
				looked(t, a, []byte{2, 1}, m)
				restLooked(t, a, m)
			}
		}
	}
}

func TestP71ModulusOfEachBit(t *testing.T) {
	for at := range 1024 {
		m := make([]byte, 128)
		m[127-at/8] = 1 << (at % 8)
		restLooked(t, some(128), m)
		looked(t, some(128), []byte{5}, m)
		m[127] |= 1
		restLooked(t, some(128), m)
	}
}

func TestP71NoughtModulus(t *testing.T) {
	for many := range 129 {
		for _, a := range [][]byte{nil, {0}, {1}, some(128)} {
			m := make([]byte, many)
			if g, errno := big.Power(a, a, m); !bytes.Equal(g, m) || errno != api.OK {
				t.Errorf("Power by %d noughts = %x, %v", many, g, errno)
			}
			if g, errno := big.Rest(a, m); !bytes.Equal(g, m) || errno != api.OK {
				t.Errorf("Rest by %d noughts = %x, %v", many, g, errno)
			}
		}
	}
}

func TestP71Rest(t *testing.T) {
	for _, c := range []struct{ a, m, want string }{
		{"0100", "07", "04"},
		{"0100", "0007", "0004"},
		{"06", "07", "06"},
		{"07", "07", "00"},
		{"08", "07", "01"},
		{"", "07", "00"},
		{"ff", "01", "00"},
		{"ff", "", ""},
		{"ff", "00", "00"},
		{"ff", "000000", "000000"},
		{"05", "00 00 00 00 00 00 00 00 00 ff", "00 00 00 00 00 00 00 00 00 05"},
		{"01 00 00 00 00 00 00 00 00", "ff ff ff ff ff ff ff ff", "00 00 00 00 00 00 00 01"},
	} {
		if g, errno := big.Rest(raw(t, c.a), raw(t, c.m)); !bytes.Equal(g, raw(t, c.want)) || errno != api.OK {
			t.Errorf("Rest(%s, %s) = %x, %v, want %s", c.a, c.m, g, errno, c.want)
		}
	}
	for _, a := range samples() {
		for _, m := range samples() {
			restLooked(t, a, m)
		}
	}
	next := noise()
	for range 100000 {
		restLooked(t, mixed(next, 48), mixed(next, 32))
	}
}

// TestP71QuotientsGuessedTooHigh has numbers whose quotients' digits can't be told by the highest digits alone.
func TestP71QuotientsGuessedTooHigh(t *testing.T) {
	digits := []string{"0000000000000000", "0000000000000001", "7fffffffffffffff", "8000000000000000", "8000000000000001", "fffffffffffffffe", "ffffffffffffffff"}
	for _, m1 := range digits {
		for _, m0 := range digits {
			for _, a3 := range digits {
				for _, a2 := range digits {
					for _, a1 := range digits {
						a := raw(t, a3+a2+a1+m0)
						restLooked(t, a, raw(t, m1+m0))
						restLooked(t, a, raw(t, m1+m0+a3))
					}
				}
			}
		}
	}
}

func TestP71TooLong(t *testing.T) {
	most, fits := make([]byte, api.MaxBig), bytes.Repeat([]byte{0xff}, api.MaxBig)
	if api.MaxBig != 128 {
		t.Fatalf("MaxBig is %d", api.MaxBig)
	}
	for _, long := range [][]byte{make([]byte, 129), bytes.Repeat([]byte{0xff}, 129), make([]byte, 1<<20), some(4000)} {
		for i, l := range [][3][]byte{{long, nil, nil}, {nil, long, nil}, {nil, nil, long}, {long, fits, fits}, {fits, long, fits}, {fits, fits, long}, {long, long, long}, {long, most, most}, {{1}, {1}, long}} {
			if g, errno := big.Power(l[0], l[1], l[2]); g != nil || errno != api.ErrLong {
				t.Errorf("Power %d of %d bytes = %x, %v", i, len(long), g, errno)
			}
		}
		for i, l := range [][2][]byte{{long, nil}, {nil, long}, {long, fits}, {fits, long}, {long, long}, {{1}, long}, {long, {1}}} {
			if g, errno := big.Rest(l[0], l[1]); g != nil || errno != api.ErrLong {
				t.Errorf("Rest %d of %d bytes = %x, %v", i, len(long), g, errno)
			}
		}
	}
	looked(t, fits, fits, fits)
	looked(t, fits, fits, most)
	looked(t, fits, fits, append(fits[:127:127], 0xfd))
	restLooked(t, fits, append(fits[:127:127], 0xfd))
}

func TestP71KeepsWhatIsHandedIn(t *testing.T) {
	next := noise()
	for range 500 {
		all := some(500)
		was := bytes.Clone(all)
		cut := func(from int) []byte { return all[from : from+next()%129] }
		a, n, m := cut(0), cut(130), cut(260)
		first, _ := big.Power(a, n, m)
		second, _ := big.Power(a, n, m)
		third, _ := big.Rest(a, m)
		want, rest := bytes.Clone(first), bytes.Clone(third)
		for _, l := range [][]byte{first, third} {
			for i := range l {
				l[i] ^= 0xff
			}
			_ = append(l, 1, 2, 3)
		}
		if !bytes.Equal(all, was) {
			t.Fatal("bytes that were handed in have changed")
		}
		if again, _ := big.Rest(a, m); !bytes.Equal(second, want) || !bytes.Equal(again, rest) {
			t.Fatal("two answers share")
		}
	}
	small := []byte{0, 2, 9}
	rest, _ := big.Rest(small[:2], small[2:])
	rest[0] = 7
	if string(small) != "\x00\x02\x09" {
		t.Errorf("what is left is the number's own bytes: %x", small)
	}
	m := []byte{0, 0}
	noughts, _ := big.Rest(small, m)
	noughts[0] = 7
	if string(m) != "\x00\x00" {
		t.Errorf("noughts are the modulus' own bytes: %x", m)
	}
}

func TestP72Order(t *testing.T) {
	for _, c := range []struct {
		a, b string
		want int
	}{
		{"0005", "05", 0}, {"05", "0005", 0}, {"", "", 0}, {"", "00", 0}, {"0000", "", 0},
		{"", "01", -1}, {"01", "", 1}, {"00", "01", -1}, {"04", "05", -1}, {"06", "05", 1},
		{"0100", "ff", 1}, {"ff", "0100", -1}, {"00ff", "0100", -1}, {"0000ff", "fe", 1},
		{"0102", "0201", -1}, {"0201", "0102", 1}, {"7f", "80", -1}, {"80", "7f", 1},
	} {
		if g := big.Order(raw(t, c.a), raw(t, c.b)); g != c.want {
			t.Errorf("Order(%s, %s) = %d, want %d", c.a, c.b, g, c.want)
		}
	}
	l := append(samples(), some(129), some(1000), append(make([]byte, 3000), some(1000)...), make([]byte, 5000))
	for _, a := range l {
		for _, b := range l {
			if g, w := big.Order(a, bytes.Clone(b)), value(a).Cmp(value(b)); g != w {
				t.Errorf("Order(%.40x, %.40x) = %d, want %d", a, b, g, w)
			}
		}
	}
}

func TestP72Len(t *testing.T) {
	if big.Len(nil) != 0 || big.Len([]byte{}) != 0 || big.Len(make([]byte, 1000)) != 0 || big.Len([]byte{0, 9}) != 4 {
		t.Errorf("Len of noughts, and of 9: %d, %d, %d, %d", big.Len(nil), big.Len([]byte{}), big.Len(make([]byte, 1000)), big.Len([]byte{0, 9}))
	}
	for b := range 256 {
		for _, behind := range []int{0, 1, 7, 200, 5000} {
			a := append([]byte{0, 0, byte(b)}, make([]byte, behind)...)
			if g, w := big.Len(a), value(a).BitLen(); g != w {
				t.Errorf("Len of %02x and %d noughts = %d, want %d", b, behind, g, w)
			}
		}
	}
	for _, a := range samples() {
		if g, w := big.Len(a), value(a).BitLen(); g != w {
			t.Errorf("Len(%x) = %d, want %d", a, g, w)
		}
	}
}

// told is a text of all bits that an iterator tells.
func told(each iter.Seq[bool]) string {
	var b strings.Builder
	for bit := range each {
		if bit {
			b.WriteByte('1')
		} else {
			b.WriteByte('0')
		}
	}
	return b.String()
}

// bits is a text of a number's bits, made by the library.
func bits(a []byte) string {
	if value(a).Sign() == 0 {
		return ""
	}
	return value(a).Text(2)
}

func TestP72Bits(t *testing.T) {
	for s, w := range map[string]string{"": "", "00": "", "000000": "", "05": "101", "0005": "101", "01": "1", "80": "10000000", "ff": "11111111", "0100": "100000000", "000180": "110000000"} {
		if g := told(big.Bits(raw(t, s))); g != w {
			t.Errorf("Bits(%s) = %s, want %s", s, g, w)
		}
	}
	for _, a := range append(samples(), some(129), some(5000), append(make([]byte, 5000), 0, 6), make([]byte, 70000)) {
		g := told(big.Bits(a))
		if g != bits(a) || len(g) != big.Len(a) {
			t.Errorf("Bits(%.40x) = %.80s, want %.80s", a, g, bits(a))
		}
	}
	for a := range 1 << 12 {
		b := []byte{byte(a >> 8), byte(a)}
		if g := told(big.Bits(b)); g != bits(b) {
			t.Errorf("Bits(%x) = %s", b, g)
		}
	}
}

func TestP72BitsLeftAndAgain(t *testing.T) {
	a := []byte{0, 0x35, 0, 0xf1}
	each, want := big.Bits(a), bits(a)
	for stop := 1; stop <= len(want); stop++ {
		var got []bool
		each(func(bit bool) bool { got = append(got, bit); return len(got) < stop })
		if len(got) != stop {
			t.Fatalf("left at %d, it has told %d", stop, len(got))
		}
		if g := told(slices.Values(got)); g != want[:stop] {
			t.Errorf("left at %d, it has told %s, want %s", stop, g, want[:stop])
		}
	}
	if g := told(each); g != want {
		t.Errorf("gone over again, it tells %s", g)
	}
	pairs := 0
	for range each {
		for range each {
			pairs++
		}
	}
	if pairs != len(want)*len(want) {
		t.Errorf("gone over within itself, it tells %d", pairs)
	}
}

func TestP72BitsAsTheyWere(t *testing.T) {
	a := some(20)
	was := bytes.Clone(a)
	each := big.Bits(a[:10])
	clear(a)
	if g := told(each); g != bits(was[:10]) {
		t.Errorf("changed with the bytes: %s", g)
	}
	big.Order(was[:3], was[3:])
	big.Len(was)
	told(big.Bits(was[:5]))
	if !bytes.Equal(was, some(20)) {
		t.Errorf("bytes that were handed in have changed: %x", was)
	}
}

// following is the next number, with a byte more.
func following(n []byte) []byte {
	return new(stdbig.Int).Add(value(n), stdbig.NewInt(1)).FillBytes(make([]byte, len(n)+1))
}

func TestP73LessThanTheModulus(t *testing.T) {
	next := noise()
	for range 3000 {
		a, n, m := mixed(next, 64), mixed(next, 4), mixed(next, 64)
		if big.Len(m) == 0 {
			continue
		}
		g, _ := big.Power(a, n, m)
		r, _ := big.Rest(a, m)
		if big.Order(g, m) != -1 || big.Order(r, m) != -1 || len(g) != len(m) || len(r) != len(m) {
			t.Errorf("left of %x, %x by %x: %x, %x", a, n, m, g, r)
		}
		if again, _ := big.Rest(r, m); !bytes.Equal(again, r) {
			t.Errorf("what is left of %x by %x is %x", r, m, again)
		}
	}
}

func TestP73NoughtsAhead(t *testing.T) {
	next := noise()
	ahead := func(b []byte) []byte { return append(make([]byte, next()%40), b...) }
	for range 2000 {
		a, n, m := mixed(next, 40), mixed(next, 4), mixed(next, 40)
		want, _ := big.Power(a, n, m)
		if g, errno := big.Power(ahead(a), ahead(n), m); !bytes.Equal(g, want) || errno != api.OK {
			t.Errorf("with noughts ahead, Power(%x, %x, %x) = %x, want %x", a, n, m, g, want)
		}
		more := ahead(m)
		if g, _ := big.Power(a, n, more); len(g) != len(more) || big.Order(g, want) != 0 {
			t.Errorf("with noughts ahead of the modulus, Power(%x, %x, %x) = %x, want %x", a, n, more, g, want)
		}
		rest, _ := big.Rest(a, m)
		if g, _ := big.Rest(ahead(a), m); !bytes.Equal(g, rest) {
			t.Errorf("with noughts ahead, Rest(%x, %x) = %x, want %x", a, m, g, rest)
		}
	}
}

func TestP73PowersOfSums(t *testing.T) {
	random := noise()
	for range 1000 {
		a, n, o, m := mixed(random, 60), mixed(random, 8), mixed(random, 8), mixed(random, 60)
		p, _ := big.Power(a, n, m)
		q, _ := big.Power(a, o, m)
		g, _ := big.Power(a, new(stdbig.Int).Add(value(n), value(o)).Bytes(), m)
		w, _ := big.Rest(new(stdbig.Int).Mul(value(p), value(q)).Bytes(), m)
		if !bytes.Equal(g, w) {
			t.Errorf("the power of %x by %x and %x, modulo %x, is %x, the product %x", a, n, o, m, g, w)
		}
		g, _ = big.Power(a, following(n), m)
		w, _ = big.Rest(new(stdbig.Int).Mul(value(p), value(a)).Bytes(), m)
		if !bytes.Equal(g, w) {
			t.Errorf("the power of %x by %x and 1, modulo %x, is %x, the product %x", a, n, m, g, w)
		}
	}
	for _, a := range samples() {
		for _, m := range samples() {
			one, _ := big.Power(a, []byte{1}, m)
			if rest, _ := big.Rest(a, m); !bytes.Equal(one, rest) {
				t.Errorf("Power(%x, 1, %x) = %x, Rest %x", a, m, one, rest)
			}
		}
	}
}
