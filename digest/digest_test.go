package digest_test

import (
	"bytes"
	"crypto/sha3"
	"encoding/hex"
	"math/bits"
	"slices"
	"strings"
	"testing"

	"excise/api"
	"excise/digest"
	"excise/word"
)

type (
	state = [25]uint64
	block = [17]uint64
)

const (
	room = 136
	most = 1<<64 - 1
)

// noise is bytes without a pattern, the same ones each time.
func noise(many int) []byte {
	b := make([]byte, many)
	n := uint64(0x9e3779b97f4a7c15)
	for i := range b {
		n ^= n << 13
		n ^= n >> 7
		n ^= n << 17
		b[i] = byte(n >> 32)
	}
	return b
}

// lengths are those at which a block begins, ends or is the last one, and some between.
func lengths() []int {
	return []int{0, 1, 2, 3, 7, 8, 9, 31, 32, 33, 55, 64, 127, 128, 129, 134, 135, 136, 137, 143, 144, 200, 270, 271, 272, 273, 407, 408, 409, 1000, 1359, 1360, 1361, 5000}
}

// samples are states with one bit, with all, and without a pattern.
func samples() []state {
	full := state{}
	for i := range full {
		full[i] = most
	}
	l := []state{{}, full}
	for i := range 25 {
		for _, at := range []int{0, 1, 31, 62, 63} {
			var s state
			s[i] = 1 << at
			l = append(l, s)
		}
	}
	b := noise(200 * 20)
	for i := range 20 {
		l = append(l, laid(state{}, b[200*i:200*i+200]))
	}
	return l
}

// laid is a state with bytes laid on it, of each number the lowest byte first.
func laid(s state, b []byte) state {
	for i, c := range b {
		s[i/8] ^= uint64(c) << (i % 8 * 8)
	}
	return s
}

// closed is bytes with those behind them, made without the package that is tested.
func closed(b []byte, first byte) []byte {
	l := append(slices.Clone(b), first)
	for len(l)%room != 0 {
		l = append(l, 0)
	}
	l[len(l)-1] ^= 0x80
	return l
}

// sponge is the first 32 bytes of what comes of bytes by Turn alone, the byte first being behind them.
func sponge(b []byte, first byte) [32]byte {
	var s state
	for l := range slices.Chunk(closed(b, first), room) {
		s = digest.Turn(laid(s, l))
	}
	var d [32]byte
	for i := range d {
		d[i] = byte(s[i/8] >> (i % 8 * 8))
	}
	return d
}

// turned is a state turned over, column by column and row by row, as the chapter has it word for word.
func turned(s state) state {
	at := func(x, y int) int { return x%5 + 5*(y%5) }
	register := uint(1)
	for range 24 {
		var c [5]uint64
		for x := range 5 {
			c[x] = s[at(x, 0)] ^ s[at(x, 1)] ^ s[at(x, 2)] ^ s[at(x, 3)] ^ s[at(x, 4)]
		}
		for x := range 5 {
			for y := range 5 {
				s[at(x, y)] ^= c[(x+4)%5] ^ (c[(x+1)%5]<<1 | c[(x+1)%5]>>63)
			}
		}
		moved := s
		for x, y, t := 1, 0, 0; t < 24; t++ {
			n := (t + 1) * (t + 2) / 2 % 64
			moved[at(y, 2*x+3*y)] = s[at(x, y)]<<n | s[at(x, y)]>>(64-n)
			x, y = y, (2*x+3*y)%5
		}
		for x := range 5 {
			for y := range 5 {
				s[at(x, y)] = moved[at(x, y)] ^ (moved[at(x+1, y)]^most)&moved[at(x+2, y)]
			}
		}
		for _, place := range []int{0, 1, 3, 7, 15, 31, 63} {
			s[0] ^= uint64(register&1) << place
			if register *= 2; register >= 256 {
				register ^= 0x171
			}
		}
	}
	return s
}

func TestP51TurnOfNoughts(t *testing.T) {
	want := state{
		0xf1258f7940e1dde7, 0x84d5ccf933c0478a, 0xd598261ea65aa9ee, 0xbd1547306f80494d, 0x8b284e056253d057,
		0xff97a42d7f8e6fd4, 0x90fee5a0a44647c4, 0x8c5bda0cd6192e76, 0xad30a6f71b19059c, 0x30935ab7d08ffc64,
		0xeb5aa93f2317d635, 0xa9a6e6260d712103, 0x81a57c16dbcf555f, 0x43b831cd0347c826, 0x01f22f1a11a5569f,
		0x05e5635a21d9ae61, 0x64befef28cc970f2, 0x613670957bc46611, 0xb87c5a554fd00ecb, 0x8c3ee88a1ccf32c8,
		0x940c7922ae3a2614, 0x1841f924a2c509e4, 0x16f53526e70465c2, 0x75f644e97f30a13b, 0xeaf1ff7b5ceca249,
	}
	if g := digest.Turn(state{}); g != want {
		t.Errorf("Turn of noughts = %x", g)
	}
}

func TestP51Turn(t *testing.T) {
	for _, s := range samples() {
		was := s
		if g, w := digest.Turn(s), turned(s); g != w {
			t.Errorf("Turn(%x) = %x, want %x", s, g, w)
		}
		if s != was {
			t.Errorf("Turn has changed its state to %x", s)
		}
		if digest.Turn(s) != digest.Turn(s) {
			t.Errorf("Turn(%x) tells two states", s)
		}
	}
}

func TestP51TurnOfTurns(t *testing.T) {
	g, w := state{}, state{}
	for i := range 200 {
		g, w = digest.Turn(g), turned(w)
		if g != w {
			t.Fatalf("turned over %d times, it is %x, want %x", i+1, g, w)
		}
	}
}

// TestP51TurnOfSha3 makes another digest out of Turn, which the library has too.
func TestP51TurnOfSha3(t *testing.T) {
	for _, many := range lengths() {
		b := noise(many)
		if g, w := sponge(b, 6), sha3.Sum256(b); g != w {
			t.Errorf("SHA3-256 of %d bytes, by Turn, is %x, want %x", many, g, w)
		}
	}
}

func TestP51Constants(t *testing.T) {
	want := [24]uint64{
		0x0000000000000001, 0x0000000000008082, 0x800000000000808a, 0x8000000080008000,
		0x000000000000808b, 0x0000000080000001, 0x8000000080008081, 0x8000000000008009,
		0x000000000000008a, 0x0000000000000088, 0x0000000080008009, 0x000000008000000a,
		0x000000008000808b, 0x800000000000008b, 0x8000000000008089, 0x8000000000008003,
		0x8000000000008002, 0x8000000000000080, 0x000000000000800a, 0x800000008000000a,
		0x8000000080008081, 0x8000000000008080, 0x0000000080000001, 0x8000000080008008,
	}
	l := digest.Constants()
	if l != want {
		t.Errorf("Constants() = %x", l)
	}
	l[0] = 7
	if digest.Constants() != want || digest.Turn(state{}) != turned(state{}) {
		t.Error("what Constants has answered is Turn's own")
	}
}

// known are digests that others have told.
func known() map[string]string {
	return map[string]string{
		"":                                  "c5d2460186f7233c927e7db2dcc703c0e500b653ca82273b7bfad8045d85a470",
		"abc":                               "4e03657aea45a94fc7d47ba826c8d667c0d1e6e33a64a036ec44f58fa12d6c45",
		"hello":                             "1c8aff950685c2ed4bc3174f3472287b56d9517b9c948127319a09a7a36deac8",
		"testing":                           "5f16f4c7f149ac4f9510d9cf8cf384038ad348b3bcdc01915f95de12df9d1b02",
		"Transfer(address,address,uint256)": "ddf252ad1be2c89b69c2b068fc378daa952ba7f163c4a11628f55a4df523b3ef",
		"The quick brown fox jumps over the lazy dog":  "4d741b6f1eb29cb2a9b9911c82f56fa8d73b04959d3d9d222895df6c0b28aa15",
		"The quick brown fox jumps over the lazy dog.": "578951e24efd62a3d63a86f7cd19aaa53c898fe287d2552133220370240b572d",
	}
}

func TestP52SumOfKnown(t *testing.T) {
	for s, w := range known() {
		d := digest.Sum([]byte(s))
		if g := hex.EncodeToString(d[:]); g != w {
			t.Errorf("Sum(%q) = %s, want %s", s, g, w)
		}
	}
}

func TestP52Sum(t *testing.T) {
	for many := range 3*room + 2 {
		b := noise(many)
		if g, w := digest.Sum(b), sponge(b, 1); g != w {
			t.Errorf("Sum of %d bytes = %x, want %x", many, g, w)
		}
	}
	for _, many := range lengths() {
		for _, c := range []byte{0, 1, 0x80, 0xff} {
			b := bytes.Repeat([]byte{c}, many)
			if g, w := digest.Sum(b), sponge(b, 1); g != w {
				t.Errorf("Sum of %d bytes %x = %x, want %x", many, c, g, w)
			}
		}
	}
}

func TestP52SumOfNone(t *testing.T) {
	w, _ := hex.DecodeString(known()[""])
	for i, d := range [][32]byte{digest.Sum(), digest.Sum(nil), digest.Sum([]byte{}), digest.Sum(nil, []byte{}, nil), digest.Sum([][]byte{}...), digest.Sum(make([][]byte, 1000)...)} {
		if !bytes.Equal(d[:], w) {
			t.Errorf("digest %d of nothing is %x", i, d)
		}
	}
}

func TestP52SumOfMuch(t *testing.T) {
	b := noise(1<<20 + 77)
	if g, w := digest.Sum(b), sponge(b, 1); g != w {
		t.Errorf("Sum of %d bytes = %x, want %x", len(b), g, w)
	}
}

func TestP52SumKeepsItsBytes(t *testing.T) {
	for _, many := range lengths() {
		b := noise(many + 300)
		digest.Sum(b[:many], b[many:many+5])
		digest.Word(b[:many])
		if !bytes.Equal(b, noise(many+300)) {
			t.Errorf("of %d bytes, or of the room behind them, some have changed", many)
		}
	}
}

func TestP52Word(t *testing.T) {
	for _, many := range lengths() {
		b := noise(many)
		d := sponge(b, 1)
		if g := digest.Word(b); !bytes.Equal(word.Bytes(g), d[:]) {
			t.Errorf("Word of %d bytes = %x, want the bytes %x", many, g, d)
		}
	}
	want := api.Word{0x7bfad8045d85a470, 0xe500b653ca82273b, 0x927e7db2dcc703c0, 0xc5d2460186f7233c}
	if g := digest.Word(nil); g != want || digest.Word([]byte{}) != want {
		t.Errorf("Word of nothing = %x", g)
	}
}

func TestP53Blocks(t *testing.T) {
	for many := range 3*room + 2 {
		b := noise(many)
		var got []block
		for i, n := range digest.Blocks(b) {
			if i != len(got) {
				t.Errorf("of %d bytes, the place %d is told at %d", many, i, len(got))
			}
			got = append(got, n)
		}
		var want []block
		for l := range slices.Chunk(closed(b, 1), room) {
			s := laid(state{}, l)
			want = append(want, block(s[:17]))
		}
		if !slices.Equal(got, want) {
			t.Errorf("Blocks of %d bytes: %x, want %x", many, got, want)
		}
	}
}

func TestP53BlocksEdges(t *testing.T) {
	full := bytes.Repeat([]byte{0xff}, 2*room)
	high, ones := block{16: 1 << 63}, block{}
	for i := range ones {
		ones[i] = most
	}
	begun := func(n uint64) block { b := high; b[0] = n; return b }
	free := ones
	free[16] = 0x81ffffffffffffff
	two := ones
	two[16] = 0x8001ffffffffffff
	for _, c := range []struct {
		in   []byte
		want []block
	}{
		{nil, []block{begun(1)}},
		{[]byte{}, []block{begun(1)}},
		{[]byte{0}, []block{begun(0x100)}},
		{[]byte{1, 2, 3}, []block{begun(0x01030201)}},
		{[]byte{1, 2, 3, 4, 5, 6, 7, 8}, []block{{0: 0x0807060504030201, 1: 1, 16: 1 << 63}}},
		{full[:room-2], []block{two}},
		{full[:room-1], []block{free}},
		{full[:room], []block{ones, begun(1)}},
		{full[:room+1], []block{ones, begun(0x1ff)}},
		{full[:2*room-1], []block{ones, free}},
		{full[:2*room], []block{ones, ones, begun(1)}},
	} {
		var got []block
		for _, n := range digest.Blocks(c.in) {
			got = append(got, n)
		}
		if !slices.Equal(got, c.want) {
			t.Errorf("Blocks of %d bytes: %x, want %x", len(c.in), got, c.want)
		}
	}
}

func TestP53BlocksLeftAndAgain(t *testing.T) {
	for _, many := range []int{0, 5, room - 1, room, 4*room - 1, 4 * room, 4*room + 3} {
		blocks := digest.Blocks(noise(many))
		var all []block
		for _, n := range blocks {
			all = append(all, n)
		}
		if len(all) != many/room+1 {
			t.Errorf("of %d bytes, %d blocks are told", many, len(all))
		}
		for stop := range all {
			var got []block
			blocks(func(_ int, n block) bool { got = append(got, n); return len(got) <= stop })
			if !slices.Equal(got, all[:stop+1]) {
				t.Errorf("of %d bytes, left at %d, it has told %x", many, stop, got)
			}
		}
	}
}

func TestP53BlocksWithinBlocks(t *testing.T) {
	blocks := digest.Blocks(noise(3 * room))
	sum := 0
	for i, a := range blocks {
		for j, b := range blocks {
			sum += (i + 1) * (j + 1)
			if (a == b) != (i == j) {
				t.Errorf("the blocks %d and %d are alike: %v", i, j, a == b)
			}
		}
	}
	if sum != 100 {
		t.Errorf("gone over within itself, it tells %d", sum)
	}
}

func TestP53BlocksAreAsTheyWere(t *testing.T) {
	b := noise(2*room + 50)
	blocks := digest.Blocks(b[:2*room+9])
	for i := range b {
		b[i] = 0xee
	}
	at := 0
	for i, n := range digest.Blocks(noise(2*room + 50)[:2*room+9]) {
		for j, m := range blocks {
			if i == j && n != m {
				t.Errorf("the block %d has changed to %x with the bytes", i, m)
			}
		}
		at++
	}
	if at != 3 {
		t.Errorf("%d blocks are told", at)
	}
	for _, c := range b {
		if c != 0xee {
			t.Fatal("bytes that were handed in have changed")
		}
	}
}

func TestP54Cuts(t *testing.T) {
	b := noise(2*room + 5)
	want := digest.Sum(b)
	for i := range len(b) + 1 {
		if g := digest.Sum(b[:i], b[i:]); g != want {
			t.Errorf("cut at %d, the digest is %x", i, g)
		}
		j := (i*7 + room) % (len(b) - i + 1)
		if g := digest.Sum(nil, b[:i], []byte{}, b[i:i+j], nil, b[i+j:]); g != want {
			t.Errorf("cut at %d and %d, the digest is %x", i, i+j, g)
		}
	}
	for many := 1; many <= len(b); many++ {
		if g := digest.Sum(slices.Collect(slices.Chunk(b, many))...); g != want {
			t.Errorf("cut into pieces of %d, the digest is %x", many, g)
		}
	}
	if digest.Sum(b, b) == want || digest.Sum(b[1:], b[:1]) == want {
		t.Error("what else is joined has the same digest")
	}
}

func TestP54UnlikeStates(t *testing.T) {
	tried, told := map[state]int{}, map[state]int{}
	for _, s := range samples() {
		for range 20 {
			tried[s]++
			s = digest.Turn(s)
		}
		for i := range s {
			s[i] ^= 1 << (i * 2)
			tried[s]++
		}
	}
	for s := range tried {
		told[digest.Turn(s)]++
	}
	if len(told) != len(tried) {
		t.Errorf("%d states are turned over to %d", len(tried), len(told))
	}
}

// TestP54EachBitCounts tells that a bit of a state changes about half of all bits of what it is turned over to.
func TestP54EachBitCounts(t *testing.T) {
	base := digest.Turn(state{})
	for at := range 1600 {
		var s state
		s[at/64] = 1 << (at % 64)
		many := 0
		for i, n := range digest.Turn(s) {
			many += bits.OnesCount64(n ^ base[i])
		}
		if many < 600 || many > 1000 {
			t.Errorf("the bit %d changes %d bits", at, many)
		}
	}
}

func TestP54UnlikeBytes(t *testing.T) {
	seen := map[[32]byte]string{}
	for i := range 3 * room {
		for _, s := range []string{strings.Repeat("\x00", i), strings.Repeat("\x00", i) + "\x01", strings.Repeat("\x00", i) + "\x80", strings.Repeat("a", i+1)} {
			d := digest.Sum([]byte(s))
			if other, there := seen[d]; there {
				t.Errorf("%x and %x have one digest", s, other)
			}
			seen[d] = s
		}
	}
}
