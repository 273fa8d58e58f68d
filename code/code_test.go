package code_test

import (
	"bytes"
	"encoding/hex"
	"fmt"
	"math"
	"slices"
	"strconv"
	"strings"
	"testing"

	"excise/api"
	"excise/code"
)

// single are the ops that belong to no family, as the document has them: the byte, its name, what it takes, what it puts, its gas, and whether it is quiet.
const single = `
00 STOP 0 0 0 no
01 ADD 2 1 3 yes
02 MUL 2 1 5 yes
03 SUB 2 1 3 yes
04 DIV 2 1 5 yes
05 SDIV 2 1 5 yes
06 MOD 2 1 5 yes
07 SMOD 2 1 5 yes
08 ADDMOD 3 1 8 yes
09 MULMOD 3 1 8 yes
0a EXP 2 1 10 no
0b SIGNEXTEND 2 1 5 yes
10 LT 2 1 3 yes
11 GT 2 1 3 yes
12 SLT 2 1 3 yes
13 SGT 2 1 3 yes
14 EQ 2 1 3 yes
15 ISZERO 1 1 3 yes
16 AND 2 1 3 yes
17 OR 2 1 3 yes
18 XOR 2 1 3 yes
19 NOT 1 1 3 yes
1a BYTE 2 1 3 yes
1b SHL 2 1 3 yes
1c SHR 2 1 3 yes
1d SAR 2 1 3 yes
20 KECCAK256 2 1 30 no
30 ADDRESS 0 1 2 yes
31 BALANCE 1 1 0 no
32 ORIGIN 0 1 2 yes
33 CALLER 0 1 2 yes
34 CALLVALUE 0 1 2 yes
35 CALLDATALOAD 1 1 3 no
36 CALLDATASIZE 0 1 2 yes
37 CALLDATACOPY 3 0 3 no
38 CODESIZE 0 1 2 yes
39 CODECOPY 3 0 3 no
3a GASPRICE 0 1 2 yes
3b EXTCODESIZE 1 1 0 no
3c EXTCODECOPY 4 0 0 no
3d RETURNDATASIZE 0 1 2 yes
3e RETURNDATACOPY 3 0 3 no
3f EXTCODEHASH 1 1 0 no
40 BLOCKHASH 1 1 20 no
41 COINBASE 0 1 2 yes
42 TIMESTAMP 0 1 2 yes
43 NUMBER 0 1 2 yes
44 PREVRANDAO 0 1 2 yes
45 GASLIMIT 0 1 2 yes
46 CHAINID 0 1 2 yes
47 SELFBALANCE 0 1 5 no
48 BASEFEE 0 1 2 yes
50 POP 1 0 2 yes
51 MLOAD 1 1 3 no
52 MSTORE 2 0 3 no
53 MSTORE8 2 0 3 no
54 SLOAD 1 1 0 no
55 SSTORE 2 0 0 no
56 JUMP 1 0 8 no
57 JUMPI 2 0 10 no
58 PC 0 1 2 yes
59 MSIZE 0 1 2 yes
5a GAS 0 1 2 no
5b JUMPDEST 0 0 1 yes
5f PUSH0 0 1 2 yes
f0 CREATE 3 1 32000 no
f1 CALL 7 1 0 no
f2 CALLCODE 7 1 0 no
f3 RETURN 2 0 0 no
f4 DELEGATECALL 6 1 0 no
f5 CREATE2 4 1 32000 no
fa STATICCALL 6 1 0 no
fd REVERT 2 0 0 no
fe INVALID 0 0 0 no
ff SELFDESTRUCT 1 0 5000 no
`

// right is what the document has of all ops, by their bytes.
func right() map[byte]api.OpInfo {
	all := map[byte]api.OpInfo{}
	for _, l := range strings.Split(strings.TrimSpace(single), "\n") {
		var op byte
		var x api.OpInfo
		var quiet string
		if n, err := fmt.Sscanf(l, "%x %s %d %d %d %s", &op, &x.Name, &x.In, &x.Out, &x.Gas, &quiet); n != 6 {
			panic(err)
		}
		x.Quiet = quiet == "yes"
		all[op] = x
	}
	for n := 1; n <= 32; n++ {
		all[byte(0x5f+n)] = api.OpInfo{Name: fmt.Sprintf("PUSH%d", n), Out: 1, Gas: 3, Quiet: true, Size: n}
	}
	for n := 1; n <= 16; n++ {
		all[byte(0x7f+n)] = api.OpInfo{Name: fmt.Sprintf("DUP%d", n), In: n, Out: n + 1, Gas: 3, Quiet: true}
		all[byte(0x8f+n)] = api.OpInfo{Name: fmt.Sprintf("SWAP%d", n), In: n + 1, Out: n + 1, Gas: 3, Quiet: true}
	}
	for n := 0; n <= 4; n++ {
		all[byte(0xa0+n)] = api.OpInfo{Name: fmt.Sprintf("LOG%d", n), In: n + 2, Gas: uint64(375 * (n + 1))}
	}
	return all
}

// placed is an op at its place.
type placed struct {
	at int
	op byte
}

// walk tells the ops of code, made without the package that is tested.
func walk(c []byte) []placed {
	var l []placed
	for at := 0; at < len(c); at++ {
		l = append(l, placed{at, c[at]})
		if c[at] >= 0x60 && c[at] <= 0x7f {
			at += int(c[at]) - 0x5f
		}
	}
	return l
}

// behind tells the bytes of an op at a place, noughts behind those that there are, made without the package that is tested.
func behind(c []byte, x placed) []byte {
	if x.op < 0x60 || x.op > 0x7f {
		return nil
	}
	size := int(x.op) - 0x5f
	return append(slices.Clone(c[x.at+1:]), make([]byte, size)...)[:size]
}

// text is code's text, made without the package that is tested.
func text(c []byte) string {
	var words []string
	all := right()
	for _, x := range walk(c) {
		if info, is := all[x.op]; is {
			words = append(words, info.Name)
		} else {
			words = append(words, fmt.Sprintf("0x%02x", x.op))
		}
		if b := behind(c, x); b != nil {
			words = append(words, "0x"+hex.EncodeToString(b))
		}
	}
	return strings.Join(words, " ")
}

// full is code with the noughts that its last PUSH lacks.
func full(c []byte) []byte {
	var b []byte
	for _, x := range walk(c) {
		b = append(append(b, x.op), behind(c, x)...)
	}
	return b
}

// noise tells bytes without a pattern, the same ones each time.
func noise() func() byte {
	n := uint64(0x9e3779b97f4a7c15)
	return func() byte {
		n ^= n << 13
		n ^= n >> 7
		n ^= n << 17
		return byte(n >> 40)
	}
}

// samples are code of each byte alone and behind each PUSH, of each PUSH with too few bytes, and code without a pattern, of all bytes and of those that hide others.
func samples() [][]byte {
	l := [][]byte{nil, {}, {0x60, 5, 0x5b, 0x61, 0x5b}, {0x60, 4, 0x56, 0, 0x5b, 0x60, 1, 0x57, 0}, bytes.Repeat([]byte{0x5b}, 100), bytes.Repeat([]byte{0x7f}, 100), bytes.Repeat([]byte{0x60}, 101)}
	for i := range 256 {
		l = append(l, []byte{byte(i)}, []byte{byte(i), 0x5b, byte(i)}, []byte{0x60, byte(i), byte(i)}, []byte{0x61, 0, byte(i)})
	}
	for n := 1; n <= 32; n++ {
		for have := range n + 3 {
			l = append(l, append([]byte{0x5b, byte(0x5f + n)}, bytes.Repeat([]byte{0x5b}, have)...))
		}
	}
	next := noise()
	hiding := []byte{0x5b, 0x60, 0x61, 0x7f, 0x5f, 0x6f, 0, 0xfe, 0x0c, 0x80, 0xa5}
	for range 300 {
		c, few := make([]byte, next()), make([]byte, next()/2)
		for i := range c {
			c[i] = next()
		}
		for i := range few {
			few[i] = hiding[int(next())%len(hiding)]
		}
		l = append(l, c, few)
	}
	return l
}

// brief is code in digits, its beginning alone.
func brief(c []byte) string { return fmt.Sprintf("%.120x", c) }

func TestP101Info(t *testing.T) {
	all := right()
	if len(all) != 75+32+16+16+5 {
		t.Fatalf("the document has %d ops", len(all))
	}
	for i := range 256 {
		want, is := all[byte(i)]
		if g, ok := code.Info(byte(i)); g != want || ok != is {
			t.Errorf("Info(%#02x) = %v, %v, want %v, %v", i, g, ok, want, is)
		}
	}
}

func TestP101Named(t *testing.T) {
	seen := map[string]byte{}
	for op, info := range right() {
		if o, is := seen[info.Name]; is {
			t.Errorf("%#02x and %#02x are both %s", o, op, info.Name)
		}
		seen[info.Name] = op
		if g, is := code.Named(info.Name); g != op || !is {
			t.Errorf("Named(%s) = %#02x, %v, want %#02x", info.Name, g, is, op)
		}
		for _, s := range []string{strings.ToLower(info.Name), info.Name + " ", " " + info.Name, info.Name + "\x00", info.Name + "\n", info.Name + "x", "_" + info.Name, info.Name + info.Name, info.Name + " 0x00", info.Name[1:] + "?"} {
			if g, is := code.Named(s); g != 0 || is {
				t.Errorf("Named(%q) = %#02x, %v", s, g, is)
			}
		}
	}
	for _, s := range []string{"", " ", "0", "0x", "0x0", "0x01", "0x0c", "01", "1", "PUSH", "PUSH00", "PUSH01", "PUSH032", "PUSH33", "PUSH64", "PUSH-1", "PUSH+1", "PUSH 1", "PUSH256", "PUSH257", "PUSH1_0", "PUSH١", "DUP", "DUP0", "DUP01", "DUP17", "DUP-1", "SWAP", "SWAP0", "SWAP01", "SWAP17", "LOG", "LOG00", "LOG01", "LOG5", "LOG-1", "LOG256", "CREATE1", "CREATE3", "SHA3", "KECCAK", "DIFFICULTY", "SUICIDE", "TLOAD", "MCOPY", "BLOBHASH", "BLOBBASEFEE", "CLZ", "NONE", "ＡＤＤ", "\xff", strings.Repeat("ADD", 1<<20), strings.Repeat("\x00", 1<<20)} {
		if g, is := code.Named(s); g != 0 || is {
			t.Errorf("Named(%.40q) = %#02x, %v", s, g, is)
		}
	}
}

func TestP102Ops(t *testing.T) {
	for _, c := range samples() {
		var got []placed
		for at, op := range code.Ops(c) {
			got = append(got, placed{at, op})
		}
		if !slices.Equal(got, walk(c)) {
			t.Errorf("Ops(%s) = %v, want %v", brief(c), got, walk(c))
		}
	}
}

func TestP102OpsLeftAndAgain(t *testing.T) {
	for _, c := range [][]byte{{}, {0}, {0x60, 5, 0x5b, 0x61, 0x5b}, {0x0c, 0x5b, 0x62, 1, 2, 3, 0xff, 0x0c}, bytes.Repeat([]byte{0x60}, 40)} {
		each, want := code.Ops(c), walk(c)
		for stop := 1; stop <= len(want); stop++ {
			var got []placed
			each(func(at int, op byte) bool { got = append(got, placed{at, op}); return len(got) < stop })
			if !slices.Equal(got, want[:stop]) {
				t.Errorf("left at %d, it has told %v", stop, got)
			}
		}
		n, pairs := 0, 0
		for at, op := range each {
			if (placed{at, op}) != want[n] {
				t.Errorf("gone over again, it tells %#02x at %d", op, at)
			}
			n++
			for range each {
				pairs++
			}
		}
		if n != len(want) || pairs != n*n {
			t.Errorf("gone over within itself, it tells %d and %d", n, pairs)
		}
	}
}

func TestP102OpsAsItWas(t *testing.T) {
	c := []byte{0x60, 1, 0x5b, 0x61, 2, 3, 0x01}
	want := walk(c)
	each := code.Ops(c)
	c[0], c[2] = 0x7f, 0x00
	var got []placed
	for at, op := range each {
		got = append(got, placed{at, op})
		clear(c)
	}
	if !slices.Equal(got, want) {
		t.Errorf("changed with the code: %v, want %v", got, want)
	}
}

func TestP102MarksAndMark(t *testing.T) {
	for _, c := range samples() {
		var want []int
		for _, x := range walk(c) {
			if x.op == 0x5b {
				want = append(want, x.at)
			}
		}
		if got := code.Marks(c); !slices.Equal(got, want) {
			t.Errorf("Marks(%s) = %v, want %v", brief(c), got, want)
		}
		for at := range len(c) + 40 {
			if got := code.Mark(c, api.Word{uint64(at)}); got != slices.Contains(want, at) {
				t.Errorf("Mark(%s, %d) = %v", brief(c), at, got)
			}
		}
	}
}

func TestP102MarkFar(t *testing.T) {
	c := []byte{0x5b, 0x5b, 0x5b, 0x5b, 0x5b}
	for at := range uint64(6) {
		if got := code.Mark(c, api.Word{at}); got != (at < 5) {
			t.Errorf("Mark of %d = %v", at, got)
		}
		for _, w := range []api.Word{{at, 1}, {at, 0, 1}, {at, 0, 0, 1}, {at, 0, 0, 1 << 63}, {at, math.MaxUint64, math.MaxUint64, math.MaxUint64}, {at + 1<<8}, {at + 1<<16}, {at + 1<<31}, {at + 1<<32}, {at + 1<<63}, {math.MaxInt64 - at}, {math.MaxUint64 - at}} {
			if code.Mark(c, w) || code.Mark(nil, w) {
				t.Errorf("Mark of %x", w)
			}
		}
	}
	if code.Mark(nil, api.Word{}) || code.Mark([]byte{}, api.Word{}) {
		t.Error("code without bytes has a mark")
	}
}

// laid is the word of bytes, the highest first, made without the package that is tested.
func laid(b []byte) api.Word {
	var w api.Word
	for i := range b {
		at := len(b) - 1 - i
		w[at/8] |= uint64(b[i]) << (at % 8 * 8)
	}
	return w
}

func TestP102Push(t *testing.T) {
	for _, c := range samples() {
		want := map[int]api.Word{}
		for _, x := range walk(c) {
			if x.op >= 0x5f && x.op <= 0x7f {
				want[x.at] = laid(behind(c, x))
			}
		}
		places := []int{math.MinInt, math.MinInt32, -256, -33, -2, -1, math.MaxInt32, 1 << 32, math.MaxInt - 1, math.MaxInt}
		for at := range len(c) + 40 {
			places = append(places, at)
		}
		for _, at := range places {
			w, is := want[at]
			if g, ok := code.Push(c, at); g != w || ok != is {
				t.Errorf("Push(%s, %d) = %x, %v, want %x, %v", brief(c), at, g, ok, w, is)
			}
		}
	}
}

func TestP102PushExamples(t *testing.T) {
	for _, c := range []struct {
		code string
		at   int
		want api.Word
		is   bool
	}{
		{"60055b615b", 3, api.Word{0x5b00}, true},
		{"60055b615b", 0, api.Word{5}, true},
		{"60055b615b", 1, api.Word{}, false},
		{"60055b615b", 2, api.Word{}, false},
		{"60055b615b", 4, api.Word{}, false},
		{"606005", 0, api.Word{0x60}, true},
		{"606005", 1, api.Word{}, false}, // within another one's bytes
		{"5f", 0, api.Word{}, true},
		{"5e", 0, api.Word{}, false},
		{"80", 0, api.Word{}, false},
		{"60", 0, api.Word{}, true},
		{"7f", 0, api.Word{}, true},
		{"7f01", 0, api.Word{3: 1 << 56}, true},
		{"7f" + strings.Repeat("ff", 32), 0, api.Word{math.MaxUint64, math.MaxUint64, math.MaxUint64, math.MaxUint64}, true},
		{"7f" + strings.Repeat("00", 31) + "0902", 0, api.Word{9}, true},
		{"670102030405060708", 0, api.Word{0x0102030405060708}, true},
		{"68010203040506070809", 0, api.Word{0x0203040506070809, 1}, true},
	} {
		b, _ := hex.DecodeString(c.code)
		if g, is := code.Push(b, c.at); g != c.want || is != c.is {
			t.Errorf("Push(%s, %d) = %x, %v", c.code, c.at, g, is)
		}
	}
}

// reads looks at what Parse answers.
func reads(t *testing.T, s string, want []byte) {
	t.Helper()
	if g, errno := code.Parse(s); !bytes.Equal(g, want) || errno != api.OK {
		t.Errorf("Parse(%.80q) = %s, %v, want %s", s, brief(g), errno, brief(want))
	}
}

// refused looks at what Parse answers.
func refused(t *testing.T, s string, want api.Errno) {
	t.Helper()
	if g, errno := code.Parse(s); len(g) != 0 || errno != want {
		t.Errorf("Parse(%.80q) = %s, %v, want %v", s, brief(g), errno, want)
	}
}

func TestP103Text(t *testing.T) {
	for c, want := range map[string]string{
		"":                           "",
		"00":                         "STOP",
		"60055b615b":                 "PUSH1 0x05 JUMPDEST PUSH2 0x5b00",
		"60":                         "PUSH1 0x00",
		"5f5f":                       "PUSH0 PUSH0",
		"0c":                         "0x0c",
		"0c0d6001":                   "0x0c 0x0d PUSH1 0x01",
		"fe":                         "INVALID",
		"efab5c":                     "0xef 0xab 0x5c",
		"a0a4a5":                     "LOG0 LOG4 0xa5",
		"7f":                         "PUSH32 0x" + strings.Repeat("0", 64),
		"62abcdef01":                 "PUSH3 0xabcdef ADD",
		"6b000102030405060708090a0b": "PUSH12 0x000102030405060708090a0b",
	} {
		b, _ := hex.DecodeString(c)
		if g := code.Text(b); g != want {
			t.Errorf("Text(%s) = %q, want %q", c, g, want)
		}
		reads(t, want, full(b))
	}
	for _, c := range samples() {
		if g := code.Text(c); g != text(c) {
			t.Errorf("Text(%s) = %.200q, want %.200q", brief(c), g, text(c))
		}
	}
	if g := code.Text(make([]byte, 100000)); g != strings.Repeat("STOP ", 99999)+"STOP" { // longer than what is read
		t.Errorf("a long text has %d bytes", len(g))
	}
}

func TestP103Parse(t *testing.T) {
	for _, c := range samples() {
		reads(t, text(c), full(c))
	}
	all := right()
	for i := range 256 {
		s := fmt.Sprintf("0x%02x", i)
		info, is := all[byte(i)]
		switch {
		case !is:
			reads(t, s, []byte{byte(i)})
			reads(t, "STOP "+s+" ADD "+s, []byte{0, byte(i), 1, byte(i)})
			refused(t, "PUSH1 "+s[:3], api.ErrCode)
		case info.Size == 0:
			refused(t, s, api.ErrCode) // it is told by its name alone
			refused(t, "STOP "+s, api.ErrCode)
			reads(t, info.Name, []byte{byte(i)})
			refused(t, info.Name+" 0x", api.ErrCode)
			refused(t, info.Name+" 0x00", api.ErrCode)
			refused(t, strings.ToLower(info.Name), api.ErrCode)
		default:
			refused(t, s, api.ErrCode)
			refused(t, s+" 0x00", api.ErrCode)
			refused(t, info.Name, api.ErrCode)
			refused(t, info.Name+" ADD", api.ErrCode)
		}
		reads(t, "PUSH1 "+s, []byte{0x60, byte(i)})
	}
}

func TestP103ParseOfPush(t *testing.T) {
	for n := 1; n <= 32; n++ {
		name := "PUSH" + strconv.Itoa(n)
		for have := range 40 {
			b := bytes.Repeat([]byte{0xa9}, have)
			s := name + " 0x" + hex.EncodeToString(b)
			if have == n {
				want := append([]byte{byte(0x5f + n)}, b...)
				reads(t, s, want)
				reads(t, s+" STOP", slices.Concat(want, []byte{0}))
				refused(t, s+"0", api.ErrCode)
				refused(t, s[:len(s)-1], api.ErrCode)
				refused(t, strings.ToUpper(s), api.ErrCode)
				refused(t, name+" 0x"+strings.ToUpper(s[len(name)+3:]), api.ErrCode)
				refused(t, name+" "+s[len(name)+3:], api.ErrCode)
				reads(t, s+" 0xa9", slices.Concat(want, []byte{0xa9})) // which is no op
				refused(t, s+" 0x01", api.ErrCode)
			} else {
				refused(t, s, api.ErrCode)
			}
		}
	}
}

func TestP103ParseRefused(t *testing.T) {
	for _, s := range []string{
		" ", "  ", "\n", "\t", "\x00", "\xff", "x", "0", "00", "0x", "0x0", "0x0c0", "0x0c0d", "0x000c", "0X0c", "0x0C", "0xEF", "0xeF", "0x c", "0x0g", "0x-c", "0x+c", "0x_c", "0xc", "x0c", "c", "0c", "-0x0c", "0x0c ", " 0x0c", "0x0c\n", "0x0c0x0c", "0x0c,0x0d", "0x0cSTOP", "STOP0x0c",
		"STOP ", " STOP", "STOP  ADD", "STOP\tADD", "STOP\nADD", "STOP\r\nADD", "STOP,ADD", "STOPADD", "STOP\u00a0ADD", "STOP\x00", "stop", "Stop", "STOP # nothing", "STOP;", "ADDS", "AD",
		"PUSH1", "PUSH1 ", "PUSH1  0x05", "PUSH1 05", "PUSH1 5", "PUSH1 0x5", "PUSH1 0x", "PUSH1 0x005", "PUSH1 0x0005", "PUSH1 0x05 ", "PUSH1 0X05", "PUSH1 0xAB", "PUSH1 0xaB", "PUSH1 0x0g", "PUSH1 0x0/", "PUSH1 0x0:", "PUSH1 0x0`", "PUSH1 0x0@", "PUSH1 0x é", "PUSH1 0xé", "PUSH1\t0x05", "PUSH1\n0x05", "PUSH10x05", "PUSH1 PUSH1", "PUSH1 0x05 0x06", "PUSH1 0x05 0x", "PUSH1 0x05 05", "PUSH1 STOP", "PUSH1 0x05 PUSH1", "PUSH2 0x05", "PUSH2 0x5b", "PUSH2 0x05 0x06", "PUSH2 0x0c 0x0d",
		"PUSH0 0x", "PUSH0 0x00", "PUSH", "PUSH 0x", "PUSH 0x05", "PUSH00", "PUSH01 0x05", "PUSH33 0x" + strings.Repeat("00", 33), "DUP0", "DUP17", "DUP01", "SWAP0", "SWAP17", "LOG5", "LOG00", "SHA3", "DIFFICULTY", "0x5b", "0x60 0x05", "0x6005", "60055b",
	} {
		refused(t, s, api.ErrCode)
		refused(t, "ADD "+s, api.ErrCode)
		refused(t, s+" ADD", api.ErrCode)
	}
}

func TestP103ParseOfLong(t *testing.T) {
	most := strings.Repeat("GAS ", 16383) + "STOP"
	if len(most) != api.MaxText {
		t.Fatalf("it has %d bytes", len(most))
	}
	reads(t, most, append(bytes.Repeat([]byte{0x5a}, 16383), 0))
	reads(t, strings.Repeat("0x0c ", 13107)[:65534], bytes.Repeat([]byte{0x0c}, 13107))
	refused(t, most[:api.MaxText-4]+"SLOAD", api.ErrLong)
	refused(t, most+" STOP", api.ErrLong)
	refused(t, most[:api.MaxText-1], api.ErrCode)
	refused(t, most[:api.MaxText-1]+"x", api.ErrCode)
	refused(t, most+"x", api.ErrLong)
	refused(t, most+" ", api.ErrLong)
	for _, s := range []string{" ", "x", "0", "\xff", "0x", "STOP", "ADD ", "PUSH1 ", "0x0c "} {
		long := strings.Repeat(s, api.MaxText/len(s)+2)
		refused(t, long[:api.MaxText+1], api.ErrLong)
		refused(t, strings.Repeat(s, 1<<20), api.ErrLong)
	}
	for _, s := range []string{" ", "x", "0", "\xff", "STOP"} {
		refused(t, strings.Repeat(s, api.MaxText/len(s)), api.ErrCode)
	}
}

func TestP104ThereAndBack(t *testing.T) {
	for _, c := range samples() {
		s := code.Text(c)
		back, errno := code.Parse(s)
		if errno != api.OK || !bytes.Equal(back, full(c)) || !bytes.HasPrefix(back, c) {
			t.Errorf("Parse(Text(%s)) = %s, %v", brief(c), brief(back), errno)
		}
		if again := code.Text(back); again != s {
			t.Errorf("Text of Parse of %.80q is %.80q", s, again)
		}
	}
}

// TestP104OneByteOff reads texts of which one byte is another one, or left out, or added: what is read has that text.
func TestP104OneByteOff(t *testing.T) {
	s := "PUSH1 0x05 JUMPDEST 0x0c PUSH2 0x5b00 LOG0 DUP1 SWAP10 LT PUSH0 0xef PUSH3 0xabcdef"
	look := func(s string) {
		c, errno := code.Parse(s)
		if errno != api.OK {
			if len(c) != 0 || errno != api.ErrCode {
				t.Errorf("Parse(%q) = %x, %v", s, c, errno)
			}
			return
		}
		if back := code.Text(c); back != s || text(c) != s {
			t.Errorf("Text(Parse(%q)) = %q", s, back)
		}
	}
	for i := range len(s) {
		look(s[:i])
		look(s[i:])
		look(s[:i] + s[i+1:])
		for c := range 256 {
			look(s[:i] + string([]byte{byte(c)}) + s[i+1:])
			look(s[:i] + string([]byte{byte(c)}) + s[i:])
		}
	}
}

// TestP104EachByteOfOneOp looks at what the bytes of each op leave free.
func TestP104EachByteOfOneOp(t *testing.T) {
	for _, c := range samples() {
		next := 0
		marks := code.Marks(c)
		for at, op := range code.Ops(c) {
			if at != next || op != c[at] {
				t.Fatalf("the op %#02x of %s is at %d, not at %d", op, brief(c), at, next)
			}
			info, _ := code.Info(op)
			next = at + 1 + info.Size
			for _, m := range marks {
				if m > at && m < next {
					t.Errorf("a mark of %s is at %d, within the bytes of that at %d", brief(c), m, at)
				}
			}
		}
		if next < len(c) {
			t.Errorf("the ops of %s end at %d", brief(c), next)
		}
	}
}

func TestKeepsWhatIsHandedIn(t *testing.T) {
	for _, c := range samples() {
		room := append(slices.Clone(c), bytes.Repeat([]byte{0x77}, 40)...)
		was := slices.Clone(room)
		b := room[:len(c)]
		for range code.Ops(b) {
		}
		code.Marks(b)
		code.Mark(b, api.Word{2})
		for at := range len(b) + 1 {
			code.Push(b, at)
		}
		code.Text(b)
		if !bytes.Equal(room, was) {
			t.Errorf("what was handed in has become %x, it was %x", room, was)
		}
	}
}

func TestNewMemory(t *testing.T) {
	const s = "PUSH2 0x5b00 JUMPDEST 0x0c JUMPDEST"
	c, _ := code.Parse(s)
	d, _ := code.Parse(s)
	marks, again := code.Marks(d), code.Marks(d)
	clear(c[:cap(c)])
	clear(marks[:cap(marks)])
	if code.Text(d) != s || !slices.Equal(again, []int{3, 5}) {
		t.Errorf("changed with other answers: %x, %v", d, again)
	}
}
