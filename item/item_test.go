package item_test

import (
	"bytes"
	"encoding/binary"
	"encoding/hex"
	"fmt"
	"slices"
	"strings"
	"testing"

	"excise/api"
	"excise/item"
)

// of is an item of bytes.
func of(b ...byte) api.Item { return api.Item{Bytes: b} }

// text is an item of a text's bytes.
func text(s string) api.Item { return api.Item{Bytes: []byte(s)} }

// some is an item of so many bytes, none of them below 128.
func some(many int) api.Item { return api.Item{Bytes: bytes.Repeat([]byte{0xee}, many)} }

// list is an item of items.
func list(l ...api.Item) api.Item { return api.Item{List: true, Items: l} }

// many is a list of an item so many times.
func many(n int, x api.Item) api.Item { return list(slices.Repeat([]api.Item{x}, n)...) }

// deep is an item within so many lists.
func deep(lists int, x api.Item) api.Item {
	for range lists {
		x = list(x)
	}
	return x
}

// raw is the bytes of digits, blanks left out.
func raw(t *testing.T, s string) []byte {
	t.Helper()
	b, err := hex.DecodeString(strings.ReplaceAll(s, " ", ""))
	if err != nil {
		t.Fatal(err)
	}
	return b
}

// same tells whether two items are, looked at without the package that is tested.
func same(a, b api.Item) bool {
	if a.List != b.List || string(a.Bytes) != string(b.Bytes) || len(a.Items) != len(b.Items) {
		return false
	}
	for i := range a.Items {
		if !same(a.Items[i], b.Items[i]) {
			return false
		}
	}
	return true
}

// brief is a thing's text, its beginning alone.
func brief(x any) string { return fmt.Sprintf("%+.120q", fmt.Sprint(x)) }

// nothing tells whether an item is a zero one.
func nothing(x api.Item) bool { return !x.List && x.Bytes == nil && x.Items == nil }

// clone is an item of new memory.
func clone(x api.Item) api.Item {
	y := api.Item{List: x.List, Bytes: bytes.Clone(x.Bytes)}
	for _, z := range x.Items {
		y.Items = append(y.Items, clone(z))
	}
	return y
}

// laid is an item's bytes, made without the package that is tested.
func laid(x api.Item) []byte {
	if !x.List && len(x.Bytes) == 1 && x.Bytes[0] < 0x80 {
		return []byte{x.Bytes[0]}
	}
	first, body := byte(0x80), x.Bytes
	if x.List {
		first, body = 0xc0, nil
		for _, y := range x.Items {
			body = append(body, laid(y)...)
		}
	}
	var b []byte
	switch n := len(body); {
	case n < 56:
		b = []byte{first + byte(n)}
	case n < 256:
		b = []byte{first + 56, byte(n)}
	default:
		b = binary.BigEndian.AppendUint16([]byte{first + 57}, uint16(n))
	}
	return append(b, body...)
}

// reach is how many of some bytes are the first item's, which lies so deep, and 0 if they begin with none; it is sought without the package that is tested.
func reach(b []byte, level int) int {
	if len(b) == 0 || level > 8 {
		return 0
	}
	first := int(b[0])
	if first < 0x80 {
		return 1
	}
	base := first &^ 0x3f
	at, n := 1, first-base
	if n > 55 {
		width := n - 55
		if width > 2 || len(b) < 1+width || b[1] == 0 {
			return 0
		}
		n = 0
		for _, c := range b[1 : 1+width] {
			n = n<<8 + int(c)
		}
		if n < 56 {
			return 0
		}
		at = 1 + width
	}
	end := at + n
	if end > len(b) || base == 0x80 && n == 1 && b[1] < 0x80 {
		return 0
	}
	for base == 0xc0 && at < end {
		inner := reach(b[at:end], level+1)
		if inner == 0 {
			return 0
		}
		at += inner
	}
	return end
}

// noise tells numbers without a pattern, the same ones each time.
func noise() func() int {
	n := uint64(0x9e3779b97f4a7c15)
	return func() int {
		n ^= n << 13
		n ^= n >> 7
		n ^= n << 17
		return int(n >> 33)
	}
}

// grown is an item without a pattern, whose depth is at most so much.
func grown(next func() int, depth int) api.Item {
	if depth == 1 || next()%3 == 0 {
		if next()%3 == 0 {
			return of(byte(next()))
		}
		b := make([]byte, next()%70)
		for i := range b {
			b[i] = byte(next())
		}
		return of(b...)
	}
	x := list()
	for range next() % 5 {
		x.Items = append(x.Items, grown(next, depth-1))
	}
	return x
}

// samples are items that may be, of at most MaxItem bytes.
func samples() []api.Item {
	l := []api.Item{of(), list(), of(0), of(1), of(0x7f), of(0x80), of(0xff), of(0, 0), of(0, 1), of(1, 0), of(5, 6),
		text("dog"), list(text("dog"), of()), list(of()), list(list()), list(list(), list(), of(0x7f), of(0x80), list(of(1), list(of(2)))),
		deep(7, of()), deep(7, of(5)), deep(7, text("dog")), deep(7, list()), deep(7, some(200)), deep(6, many(70, of(7))),
		many(4093, of(0)), many(4093, of()), many(4093, list()), many(2046, of(0x80)), many(1364, list(of(0x80)))}
	for _, n := range []int{2, 3, 54, 55, 56, 57, 127, 128, 254, 255, 256, 257, 511, 512, 1000, 4092, 4093} {
		l = append(l, some(n), text(strings.Repeat("a", n)), of(make([]byte, n)...), many(n, of(1)), many(n, of()), many(n/2, of(0xee)))
		if n < 4000 {
			l = append(l, list(some(n)), list(some(n), of(3), some(n%70)), list(many(n, of(9)), of()))
		}
	}
	next := noise()
	for len(l) < 600 {
		if x := grown(next, 1+next()%8); len(laid(x)) <= api.MaxItem {
			l = append(l, x)
		}
	}
	return l
}

func TestP61Encode(t *testing.T) {
	for _, x := range samples() {
		if b, errno := item.Encode(x); !bytes.Equal(b, laid(x)) || errno != api.OK {
			t.Errorf("Encode(%s) = %.80x, %v, want %.80x", brief(x), b, errno, laid(x))
		}
	}
	for _, c := range []struct {
		x    api.Item
		want string
	}{
		{of(), "80"},
		{of(0), "00"},
		{of(5), "05"},
		{of(127), "7f"},
		{of(128), "8180"},
		{of(255), "81ff"},
		{of(0, 0), "820000"},
		{of(1, 2), "820102"},
		{text("dog"), "83646f67"},
		{list(), "c0"},
		{list(of()), "c180"},
		{list(of(0x7f)), "c17f"},
		{list(list()), "c1c0"},
		{list(text("dog"), of()), "c583646f6780"},
		{list(list(), list(list()), list(list(), list(list()))), "c7 c0 c1c0 c3c0c1c0"},
		{some(55), "b7" + strings.Repeat("ee", 55)},
		{some(56), "b838" + strings.Repeat("ee", 56)},
		{some(255), "b8ff" + strings.Repeat("ee", 255)},
		{some(256), "b90100" + strings.Repeat("ee", 256)},
		{some(4093), "b90ffd" + strings.Repeat("ee", 4093)},
		{many(55, of(1)), "f7" + strings.Repeat("01", 55)},
		{many(56, of(1)), "f838" + strings.Repeat("01", 56)},
		{many(28, of(0x80)), "f838" + strings.Repeat("8180", 28)},
		{many(255, of()), "f8ff" + strings.Repeat("80", 255)},
		{many(256, list()), "f90100" + strings.Repeat("c0", 256)},
	} {
		if b, errno := item.Encode(c.x); !bytes.Equal(b, raw(t, c.want)) || errno != api.OK {
			t.Errorf("Encode(%s) = %.80x, %v, want %.80s", brief(c.x), b, errno, c.want)
		}
	}
}

func TestP61EncodeNilAndEmpty(t *testing.T) {
	nils := list(api.Item{}, api.Item{List: true})
	empties := api.Item{List: true, Bytes: []byte{}, Items: []api.Item{{Bytes: []byte{}, Items: []api.Item{}}, {List: true, Bytes: []byte{}, Items: []api.Item{}}}}
	for _, x := range []api.Item{nils, empties} {
		if b, errno := item.Encode(x); string(b) != "\xc2\x80\xc0" || errno != api.OK {
			t.Errorf("Encode(%#v) = %x, %v", x, b, errno)
		}
	}
}

// wrong are items that may not be.
func wrong() []api.Item {
	l := []api.Item{
		{Items: []api.Item{{}}},
		{Items: []api.Item{{List: true}}},
		{Bytes: []byte{1}, Items: []api.Item{{Bytes: []byte{1}}}},
		{List: true, Bytes: []byte{0}},
		{List: true, Bytes: []byte("dog"), Items: []api.Item{{}}},
		deep(8, of()), deep(8, of(1)), deep(8, text("dog")), deep(8, list()), deep(9, of()), deep(100, list()), deep(1<<16-1, of(1)),
		list(of(), deep(7, of()), of()), list(deep(7, list())),
	}
	for _, x := range slices.Clone(l)[:5] {
		l = append(l, list(x), list(of(), x), list(x, of()), list(list(), list(of(1), x)), deep(7, x))
	}
	self := list(of(), of())
	self.Items[1] = self
	return append(l, self)
}

func TestP61EncodeErrArg(t *testing.T) {
	for i, x := range wrong() {
		if b, errno := item.Encode(x); b != nil || errno != api.ErrArg {
			t.Errorf("Encode of the wrong one %d = %x, %v", i, b, errno)
		}
		long := list(some(5000), many(5000, of(1)), x)
		if b, errno := item.Encode(long); b != nil || errno != api.ErrArg {
			t.Errorf("Encode of much and the wrong one %d = %.80x, %v", i, b, errno)
		}
	}
	if b, errno := item.Encode(api.Item{List: true, Bytes: make([]byte, 5000)}); b != nil || errno != api.ErrArg {
		t.Errorf("Encode of a list with many bytes = %.80x, %v", b, errno)
	}
}

func TestP61EncodeErrLong(t *testing.T) {
	for _, c := range []struct {
		name string
		x    api.Item
		size int
	}{
		{"4093 bytes", some(4093), 4096},
		{"4094 bytes", some(4094), 4097},
		{"4096 bytes", some(4096), 4099},
		{"4097 bytes", some(4097), 4100},
		{"2^24 bytes", some(1 << 24), 1<<24 + 5},
		{"4093 items", many(4093, of(1)), 4096},
		{"4094 items", many(4094, of(1)), 4097},
		{"4096 items", many(4096, of(1)), 4099},
		{"4097 items", many(4097, of()), 4100},
		{"4094 lists", many(4094, list()), 4097},
		{"2^20 items", many(1<<20, of()), 1<<20 + 4},
		{"a list of 4090 bytes", list(some(4090)), 4096},
		{"a list of 4091 bytes", list(some(4091)), 4097},
		{"a list of 4093 bytes", list(some(4093)), 4099},
		{"two times 2044 and 2043 bytes", list(some(2044), some(2043)), 4096},
		{"two times 2044 bytes", list(some(2044), some(2044)), 4097},
		{"seven lists of 4072 bytes", deep(7, some(4072)), 4096},
		{"seven lists of 4073 bytes", deep(7, some(4073)), 4097},
		{"lists of lists", many(1000, many(1000, of(1))), 1003004},
	} {
		b, errno := item.Encode(c.x)
		if c.size <= api.MaxItem {
			if len(b) != c.size || errno != api.OK || !bytes.Equal(b, laid(c.x)) {
				t.Errorf("Encode of %s: %d bytes, %v", c.name, len(b), errno)
			}
			continue
		}
		if b != nil || errno != api.ErrLong {
			t.Errorf("Encode of %s: %d bytes, %v", c.name, len(b), errno)
		}
	}
}

func TestP61EncodeKeepsAndSharesNothing(t *testing.T) {
	for _, x := range []api.Item{of(5), of(5, 6), some(60), list(of(5), of(6, 7)), list(of(5))} {
		x.Bytes = append(x.Bytes, 1, 2, 3)[:len(x.Bytes)]
		for i := range x.Items {
			x.Items[i].Bytes = append(x.Items[i].Bytes, 1, 2, 3)[:len(x.Items[i].Bytes)]
		}
		was := clone(x)
		first, _ := item.Encode(x)
		second, _ := item.Encode(x)
		for i := range first {
			first[i] ^= 0xff
		}
		_ = append(first, 9, 9, 9)
		if !same(x, was) || !bytes.Equal(second, laid(was)) {
			t.Errorf("changed with an answer: %v, %x", x, second)
		}
		for _, b := range append([]api.Item{x}, x.Items...) {
			if spare := b.Bytes[:cap(b.Bytes)]; len(b.Bytes) > 0 && !bytes.HasPrefix(spare[len(b.Bytes):], []byte{1, 2, 3}) {
				t.Errorf("spare room has changed: %x", spare)
			}
		}
	}
}

func TestP61Decode(t *testing.T) {
	for _, x := range samples() {
		if y, errno := item.Decode(laid(x)); !same(x, y) || errno != api.OK {
			t.Errorf("Decode(%.80x) = %s, %v", laid(x), brief(y), errno)
		}
	}
	y, errno := item.Decode([]byte("\xc5\x83dog\x80"))
	if !y.List || len(y.Bytes) != 0 || len(y.Items) != 2 || string(y.Items[0].Bytes) != "dog" || y.Items[1].List || len(y.Items[1].Bytes) != 0 || errno != api.OK {
		t.Errorf("Decode of a list of dog and none = %v, %v", y, errno)
	}
}

func TestP61DecodeRefused(t *testing.T) {
	for _, s := range []string{
		"", "8100", "8105", "817f", // a byte alone has no head
		"b800", "b837" + strings.Repeat("ee", 55), "b90037" + strings.Repeat("ee", 55), "b90038" + strings.Repeat("ee", 56), "b900ff" + strings.Repeat("ee", 255),
		"ba000100" + strings.Repeat("ee", 256), "bf0000000000000038" + strings.Repeat("ee", 56), "b801 05", "b8",
		"f800", "f837" + strings.Repeat("01", 55), "f90038" + strings.Repeat("01", 56), "fa000100" + strings.Repeat("01", 256), "ff0000000000000038" + strings.Repeat("01", 56), "f8",
		"81", "82ff", "b7", "b838", "b838" + strings.Repeat("ee", 55), "b90100" + strings.Repeat("ee", 255), "b9", "b901", "bf", "bf01020304050607",
		"bfffffffffffffffff", "bf7fffffffffffffff", "bf8000000000000000", "bb80000000", "bbffffffff", "ffffffffffffffffff", "ff7fffffffffffffff", "ff8000000000000000", "fbffffffff", "bc0100000001ee",
		"c1", "c180 80", "c2c0", "c281", "c18180", "c28105", "c3b80100", "c1c1", "c2c1", "c3c18180", "c1b8", "c2b838", "c1ff", "c2c2c0", "f838" + strings.Repeat("ee", 56), "f838" + strings.Repeat("01", 55),
		"0506", "0000", "8000", "818080", "83646f6700", "c000", "c0c0", "c583646f678000",
		"c8c7c6c5c4c3c2c1c0", "c8c7c6c5c4c3c2c180", "c8c7c6c5c4c3c2c105", "c9c8c7c6c5c4c3c28180",
	} {
		b := raw(t, s)
		if x, errno := item.Decode(b); !nothing(x) || errno != api.ErrItem {
			t.Errorf("Decode(%.80s) = %v, %v", s, x, errno)
		}
	}
}

func TestP61DecodeDepth(t *testing.T) {
	for _, s := range []string{"c7c6c5c4c3c2c1c0", "c7c6c5c4c3c2c180", "c7c6c5c4c3c2c105", "c8c7c6c5c4c3c28180"} {
		x, errno := item.Decode(raw(t, s))
		if errno != api.OK || !bytes.Equal(laid(x), raw(t, s)) {
			t.Errorf("Decode(%s) = %v, %v", s, x, errno)
		}
	}
	for lists := range 60 {
		b := laid(deep(lists, of(1)))
		want := api.OK
		if lists > 7 {
			want = api.ErrItem
		}
		if x, errno := item.Decode(b); errno != want || !same(x, deep(lists, of(1))) && !nothing(x) {
			t.Errorf("Decode within %d lists = %v, %v", lists, x, errno)
		}
	}
	if x, errno := item.Decode(bytes.Repeat([]byte{0xf9}, 4096)); !nothing(x) || errno != api.ErrItem {
		t.Errorf("Decode of heads alone = %v, %v", x, errno)
	}
}

func TestP61DecodeCutAndMore(t *testing.T) {
	for _, x := range samples() {
		b := laid(x)
		step := 1 + len(b)/100
		for n := 0; n < len(b); n += step {
			if y, errno := item.Decode(b[:n]); !nothing(y) || errno != api.ErrItem {
				t.Errorf("Decode of %d of %.80x = %v, %v", n, b, y, errno)
			}
		}
		if len(b) == api.MaxItem {
			continue
		}
		for _, c := range []byte{0, 1, 0x80, 0xc0, 0xff} {
			if y, errno := item.Decode(append(b[:len(b):len(b)], c)); !nothing(y) || errno != api.ErrItem {
				t.Errorf("Decode of %.80x and %x = %v, %v", b, c, y, errno)
			}
		}
	}
}

func TestP61ErrLongOfBytes(t *testing.T) {
	full := laid(some(4093))
	for _, b := range [][]byte{append(full, 0), laid(some(4094)), laid(many(4094, of())), make([]byte, 4097), bytes.Repeat([]byte{0xff}, 4097), bytes.Repeat([]byte{0xc0}, 1<<20)} {
		if x, errno := item.Decode(b); !nothing(x) || errno != api.ErrLong {
			t.Errorf("Decode of %d bytes = %v, %v", len(b), x, errno)
		}
		if x, n, errno := item.First(b); !nothing(x) || n != 0 || errno != api.ErrLong {
			t.Errorf("First of %d bytes = %v, %d, %v", len(b), x, n, errno)
		}
	}
	for _, b := range [][]byte{full, laid(many(4093, of()))} {
		if x, errno := item.Decode(b); errno != api.OK || !bytes.Equal(laid(x), b) {
			t.Errorf("Decode of %d bytes: %v", len(b), errno)
		}
		if _, n, errno := item.First(b); n != 4096 || errno != api.OK {
			t.Errorf("First of %d bytes: %d, %v", len(b), n, errno)
		}
	}
	if x, errno := item.Decode(make([]byte, 4096)); !nothing(x) || errno != api.ErrItem {
		t.Errorf("Decode of 4096 noughts = %v, %v", x, errno)
	}
	if x, n, errno := item.First(make([]byte, 4096)); !same(x, of(0)) || n != 1 || errno != api.OK {
		t.Errorf("First of 4096 noughts = %v, %d, %v", x, n, errno)
	}
}

func TestP61First(t *testing.T) {
	for _, x := range samples() {
		b := laid(x)
		for _, more := range []string{"", "\x00", "\x80", "\xff\xff", "\xc1", "\xb8", "\xc5\x83dog\x80"} {
			all := append(b[:len(b):len(b)], more...)
			if len(all) > api.MaxItem {
				continue
			}
			if y, n, errno := item.First(all); !same(x, y) || n != len(b) || errno != api.OK {
				t.Errorf("First(%.80x) = %s, %d, %v", all, brief(y), n, errno)
			}
		}
	}
	for _, s := range []string{"", "81", "8105", "810580", "b80100", "c1", "c18180", "c281", "c28105c0", "bfffffffffffffffff", "c8c7c6c5c4c3c2c1c0", "f837" + strings.Repeat("01", 60)} {
		if x, n, errno := item.First(raw(t, s)); !nothing(x) || n != 0 || errno != api.ErrItem {
			t.Errorf("First(%s) = %v, %d, %v", s, x, n, errno)
		}
	}
}

// both asks Decode and First of bytes, and holds them against what was sought here.
func both(t *testing.T, b []byte) {
	t.Helper()
	end := reach(b, 1)
	x, n, errno := item.First(b)
	if end == 0 {
		if !nothing(x) || n != 0 || errno != api.ErrItem {
			t.Fatalf("First(%.80x) = %s, %d, %v", b, brief(x), n, errno)
		}
	} else if n != end || errno != api.OK || !bytes.Equal(laid(x), b[:end]) {
		t.Fatalf("First(%.80x) = %s, %d, %v, want %d", b, brief(x), n, errno, end)
	}
	x, errno = item.Decode(b)
	if end == 0 || end < len(b) {
		if !nothing(x) || errno != api.ErrItem {
			t.Fatalf("Decode(%.80x) = %s, %v", b, brief(x), errno)
		}
	} else if errno != api.OK || !bytes.Equal(laid(x), b) {
		t.Fatalf("Decode(%.80x) = %s, %v", b, brief(x), errno)
	}
}

func TestP61AllShortBytes(t *testing.T) {
	both(t, nil)
	for i := range 256 {
		both(t, []byte{byte(i)})
		for j := range 256 {
			both(t, []byte{byte(i), byte(j)})
			if i < 0x7f {
				continue
			}
			for _, k := range []byte{0, 1, 0x37, 0x38, 0x7f, 0x80, 0x81, 0xb8, 0xc0, 0xc1, 0xf8, 0xff} {
				both(t, []byte{byte(i), byte(j), k})
				both(t, []byte{byte(i), byte(j), k, 0x81})
			}
		}
	}
}

func TestP61BytesChanged(t *testing.T) {
	next := noise()
	for _, x := range samples() {
		b := laid(x)
		for range 60 {
			c := bytes.Clone(b)
			for range 1 + next()%2 {
				c[next()%min(len(c), 80)] = byte(next())
			}
			both(t, c)
		}
	}
}

func TestP61DecodeSharesNothing(t *testing.T) {
	want := list(of(5), of(6, 7), list(of(8), of(9)), text("dog"))
	b := append(laid(want), 1, 2, 3)
	was := bytes.Clone(b)
	b = b[:len(b)-3]
	first, _ := item.Decode(b)
	second, _, _ := item.First(b)
	for i := range b {
		b[i] = 0xaa
	}
	if !same(first, want) || !same(second, want) {
		t.Errorf("changed with the bytes: %v, %v", first, second)
	}
	copy(b, was)
	for i := range first.Items {
		_ = append(first.Items[i].Bytes, 0xff, 0xff)
		_ = append(first.Items[i].Items, of(0xff))
	}
	_ = append(first.Items, of(0xff))
	if !same(first, want) || !bytes.Equal(b[:len(was)], was) {
		t.Errorf("its parts share: %v, %x", first, b)
	}
	first.Items[2].Items[0].Bytes[0] = 0
	first.Items[0] = of()
	if !same(second, want) || !bytes.Equal(b, was[:len(b)]) {
		t.Errorf("changed with another answer: %v, %x", second, b)
	}
}

// numbers are words, and the bytes that they have without noughts ahead.
func numbers() []struct {
	w api.Word
	b []byte
} {
	var l []struct {
		w api.Word
		b []byte
	}
	lay := func(w api.Word) {
		var b []byte
		for _, p := range []uint64{w[3], w[2], w[1], w[0]} {
			b = binary.BigEndian.AppendUint64(b, p)
		}
		for len(b) > 0 && b[0] == 0 {
			b = b[1:]
		}
		l = append(l, struct {
			w api.Word
			b []byte
		}{w, b})
	}
	const most = 1<<64 - 1
	for _, w := range []api.Word{{}, {1}, {127}, {128}, {255}, {256}, {65535}, {65536}, {most}, {0, 1}, {most, most, most, most}, {1, 2, 3, 4}, {0, 0, 0, 1 << 56}, {most, most, most, 1<<56 - 1}} {
		lay(w)
	}
	for at := range 256 {
		var w api.Word
		w[at/64] = 1 << (at % 64)
		lay(w)
		w[0] |= 1
		lay(w)
	}
	return l
}

func TestP62Number(t *testing.T) {
	for _, c := range numbers() {
		if x := item.Number(c.w); !same(x, of(c.b...)) {
			t.Errorf("Number(%x) = %v, want %x", c.w, x, c.b)
		}
	}
	if x := item.Number(api.Word{256}); !same(x, of(1, 0)) {
		t.Errorf("Number(256) = %v", x)
	}
	if x := item.Number(api.Word{}); x.List || len(x.Bytes) != 0 || len(x.Items) != 0 {
		t.Errorf("Number(0) = %v", x)
	}
	first, second := item.Number(api.Word{1, 2}), item.Number(api.Word{1, 2})
	first.Bytes[0] = 7
	_ = append(first.Bytes, 8)
	if !same(second, of(2, 0, 0, 0, 0, 0, 0, 0, 1)) {
		t.Errorf("Number's answers share: %v", second)
	}
}

func TestP62Word(t *testing.T) {
	for _, c := range numbers() {
		x := of(append(bytes.Clone(c.b), 9, 9)[:len(c.b)]...)
		if w, errno := item.Word(x); w != c.w || errno != api.OK {
			t.Errorf("Word(%x) = %x, %v, want %x", c.b, w, errno, c.w)
		}
		if w, errno := item.Word(of(append([]byte{0}, c.b...)...)); w != (api.Word{}) || errno != api.ErrItem {
			t.Errorf("Word(0 and %x) = %x, %v", c.b, w, errno)
		}
	}
	if w, errno := item.Word(api.Item{Bytes: []byte{}, Items: []api.Item{}}); w != (api.Word{}) || errno != api.OK {
		t.Errorf("Word(no bytes) = %x, %v", w, errno)
	}
}

func TestP62WordRefused(t *testing.T) {
	for _, x := range []api.Item{of(0), of(0, 1), of(0, 0), of(make([]byte, 32)...), of(make([]byte, 33)...), of(append([]byte{0}, some(32).Bytes...)...), some(33), some(64), some(4096), some(1 << 20), list(), list(of(1)), list(list()), deep(7, of(1)), many(5000, of(1))} {
		if w, errno := item.Word(x); w != (api.Word{}) || errno != api.ErrItem {
			t.Errorf("Word(%s) = %x, %v", brief(x), w, errno)
		}
	}
	for i, x := range append(wrong(), api.Item{Bytes: make([]byte, 33), Items: []api.Item{{}}}, api.Item{Bytes: []byte{0, 1}, Items: []api.Item{{}}}) {
		if w, errno := item.Word(x); w != (api.Word{}) || errno != api.ErrArg {
			t.Errorf("Word of the wrong one %d = %x, %v", i, w, errno)
		}
	}
}

func TestP62Same(t *testing.T) {
	l := append(samples()[:60], of(2), of(1, 1), of(1, 2), of(2, 1), list(of(1)), list(of(2)), list(of(1), of(2)), list(of(2), of(1)), list(of(1, 2)), list(list(of(1)), of(2)), list(list(of(1), of(2))), list(of(1), list(of(2))))
	for i, a := range l {
		for j, b := range l {
			if g := item.Same(a, clone(b)); g != same(a, b) {
				t.Errorf("Same of %d and %d, %s and %s: %v", i, j, brief(a), brief(b), g)
			}
		}
	}
	for _, two := range [][2]api.Item{
		{{}, {Bytes: []byte{}, Items: []api.Item{}}},
		{{List: true}, {List: true, Bytes: []byte{}, Items: []api.Item{}}},
		{list(api.Item{}), list(api.Item{Bytes: []byte{}, Items: []api.Item{}})},
		{{Bytes: []byte{1}}, {Bytes: []byte{1}, Items: []api.Item{}}},
	} {
		if !item.Same(two[0], two[1]) || !item.Same(two[1], two[0]) {
			t.Errorf("Same(%#v, %#v) is false", two[0], two[1])
		}
	}
	for _, two := range [][2]api.Item{
		{{}, {List: true}},
		{{Bytes: []byte{1}}, {Bytes: []byte{1}, Items: []api.Item{{}}}},
		{{List: true}, {List: true, Bytes: []byte{1}}},
		{{Items: []api.Item{{}}}, {Items: []api.Item{{List: true}}}},
	} {
		if item.Same(two[0], two[1]) || item.Same(two[1], two[0]) {
			t.Errorf("Same(%#v, %#v) is true", two[0], two[1])
		}
	}
	if !item.Same(deep(1<<16-1, of(1)), deep(1<<16-1, of(1))) || item.Same(deep(1<<16-1, of(1)), deep(1<<16-1, of(2))) || item.Same(deep(9, list()), deep(10, list())) {
		t.Error("Same of deep ones")
	}
}

// leaf is what Leaves tells at once.
type leaf struct {
	deep  int
	bytes string
}

// leaves are an item's, sought without the package that is tested.
func leaves(x api.Item, level int) []leaf {
	if !x.List {
		return []leaf{{level, string(x.Bytes)}}
	}
	var l []leaf
	for _, y := range x.Items {
		l = append(l, leaves(y, level+1)...)
	}
	return l
}

// told is all that an iterator tells.
func told(each func(func(int, []byte) bool)) []leaf {
	var l []leaf
	for level, b := range each {
		l = append(l, leaf{level, string(b)})
	}
	return l
}

func TestP63Leaves(t *testing.T) {
	for _, x := range samples() {
		if g, w := told(item.Leaves(x)), leaves(x, 1); !slices.Equal(g, w) {
			t.Errorf("Leaves(%s) = %s, want %s", brief(x), brief(g), brief(w))
		}
	}
	for _, c := range []struct {
		x    api.Item
		want []leaf
	}{
		{of(), []leaf{{1, ""}}},
		{text("dog"), []leaf{{1, "dog"}}},
		{list(), nil},
		{list(list(), list(list())), nil},
		{list(text("dog"), of()), []leaf{{2, "dog"}, {2, ""}}},
		{list(text("a"), list(text("b"), list(text("c")), text("d")), list(), text("e")), []leaf{{2, "a"}, {3, "b"}, {4, "c"}, {3, "d"}, {2, "e"}}},
		{deep(7, text("a")), []leaf{{8, "a"}}},
		{deep(8, text("a")), []leaf{{9, "a"}}},
		{deep(1<<16-1, list(text("a"), text("b"))), []leaf{{1<<16 + 1, "a"}, {1<<16 + 1, "b"}}},
		{api.Item{List: true, Bytes: []byte("no"), Items: []api.Item{text("a")}}, []leaf{{2, "a"}}},
		{api.Item{List: true, Bytes: []byte("no")}, nil},
		{api.Item{Bytes: []byte("a"), Items: []api.Item{text("no"), list(text("no"))}}, []leaf{{1, "a"}}},
		{list(api.Item{Items: []api.Item{text("no")}}, api.Item{List: true, Bytes: []byte("no")}), []leaf{{2, ""}}},
	} {
		if g := told(item.Leaves(c.x)); !slices.Equal(g, c.want) {
			t.Errorf("Leaves(%s) = %s, want %v", brief(c.x), brief(g), c.want)
		}
	}
}

func TestP63LeavesLeftAndAgain(t *testing.T) {
	x := list(text("a"), list(text("b"), list(text("c"), text("d")), list()), text("e"))
	want := leaves(x, 1)
	each := item.Leaves(x)
	for stop := range len(want) + 1 {
		var got []leaf
		for level, b := range each {
			if len(got) == stop {
				break
			}
			got = append(got, leaf{level, string(b)})
		}
		if !slices.Equal(got, want[:stop]) {
			t.Errorf("left at %d, it has told %v", stop, got)
		}
		calls := 0
		each(func(int, []byte) bool { calls++; return calls < stop })
		if calls != max(stop, 1) {
			t.Errorf("left at %d, it has gone on to %d", stop, calls)
		}
	}
	if g := told(each); !slices.Equal(g, want) {
		t.Errorf("gone over again, it tells %v", g)
	}
	pairs := 0
	for range each {
		for range each {
			pairs++
		}
	}
	if pairs != len(want)*len(want) {
		t.Errorf("gone over within itself, it tells %d", pairs)
	}
}

func TestP63LeavesAsItWas(t *testing.T) {
	x := list(text("a"), list(text("bc"), text("d")), of(append([]byte("e"), "xyz"...)[:1]...))
	want := leaves(x, 1)
	was := clone(x)
	each := item.Leaves(x)
	for _, b := range each {
		for i := range b {
			b[i] = '!'
		}
		_ = append(b, '!')
	}
	if !same(x, was) || string(x.Items[2].Bytes[:4]) != "exyz" {
		t.Errorf("changed with what was told: %v", x)
	}
	if g := told(each); !slices.Equal(g, want) {
		t.Errorf("what was told is told again, changed: %v", g)
	}
	x.Items[0].Bytes[0] = 'z'
	x.Items[1].Items[0] = list()
	x.Items[1].Items[1].Bytes[0] = 'y'
	x.Items[2] = text("w")
	if g := told(each); !slices.Equal(g, want) {
		t.Errorf("changed with the item: %v", g)
	}
}

func TestP64ThereAndBack(t *testing.T) {
	for _, x := range samples() {
		b, errno := item.Encode(x)
		y, again := item.Decode(b)
		if errno != api.OK || again != api.OK || !item.Same(x, y) {
			t.Errorf("Decode of Encode of %s = %s", brief(x), brief(y))
		}
		c, errno := item.Encode(y)
		if errno != api.OK || !bytes.Equal(b, c) {
			t.Errorf("Encode of Decode of %.80x = %.80x", b, c)
		}
	}
	for _, c := range numbers() {
		b, _ := item.Encode(item.Number(c.w))
		x, _ := item.Decode(b)
		if w, errno := item.Word(x); w != c.w || errno != api.OK {
			t.Errorf("Word of Decode of Encode of Number of %x = %x, %v", c.w, w, errno)
		}
	}
}

func TestP64NoneBeginsAnother(t *testing.T) {
	var l []string
	for _, x := range samples() {
		b, _ := item.Encode(x)
		l = append(l, string(b))
	}
	for i := range 256 {
		for j := range 256 {
			for _, b := range [][]byte{{byte(i)}, {byte(i), byte(j)}, {0x82, byte(i), byte(j)}, {0xc2, byte(i), byte(j)}} {
				if _, errno := item.Decode(b); errno == api.OK {
					l = append(l, string(b))
				}
			}
		}
	}
	slices.Sort(l)
	l = slices.Compact(l)
	for i := range l[1:] {
		if strings.HasPrefix(l[i+1], l[i]) {
			t.Errorf("%.80x begins %.80x", l[i], l[i+1])
		}
	}
}
