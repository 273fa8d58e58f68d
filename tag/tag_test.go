package tag_test

import (
	"bytes"
	"math"
	"slices"
	"testing"

	"excise/api"
	"excise/label"
	"excise/tag"
	"excise/word"
)

// said are a place and a byte that Known tells.
type said struct {
	at int
	b  byte
}

// known are those that Known tells.
func known(l []api.Cell, up api.Label) []said {
	var all []said
	for at, b := range tag.Known(l, up) {
		all = append(all, said{at, b})
	}
	return all
}

// wellKnown are those that Known is to tell.
func wellKnown(l []api.Cell, up api.Label) []said {
	var all []said
	for at, c := range l {
		if below(c.Label, up) {
			all = append(all, said{at, c.Byte})
		}
	}
	return all
}

func TestP141OfBytesLabel(t *testing.T) {
	for many := range 300 {
		b := make([]byte, many)
		for i := range b {
			b[i] = byte(i * 7)
		}
		for _, a := range labels() {
			l := tag.Of(b, a)
			if len(l) != many {
				t.Fatalf("Of %d bytes has %d cells", many, len(l))
			}
			for i, c := range l {
				if c != (api.Cell{Byte: b[i], Label: a}) {
					t.Fatalf("Of: cell %d is %v", i, c)
				}
			}
			if g := tag.Bytes(l); !bytes.Equal(g, b) {
				t.Fatalf("Bytes(Of(%x)) = %x", b, g)
			}
			if g := tag.Label(l); many > 0 && g != a {
				t.Fatalf("Label of %d cells of %x = %x", many, a, g)
			}
		}
	}
}

func TestP141OfNone(t *testing.T) {
	if l := tag.Of(nil, 5); len(l) != 0 {
		t.Errorf("Of(nil) = %v", l)
	}
	for _, l := range [][]api.Cell{nil, {}} {
		if b, a, j := tag.Bytes(l), tag.Label(l), tag.Join(7, l); len(b) != 0 || a != api.Bottom || len(j) != 0 {
			t.Errorf("of none: Bytes %x, Label %x, Join %v", b, a, j)
		}
	}
}

func TestP141LabelOfUnlikeOnes(t *testing.T) {
	for _, c := range []struct {
		l    []api.Cell
		want api.Label
	}{
		{[]api.Cell{{Byte: 1, Label: 1}, {Byte: 2, Label: 4}}, 5},
		{[]api.Cell{{Label: 0}}, 0},
		{[]api.Cell{{Byte: 255, Label: 0}}, 0},
		{[]api.Cell{{Label: 8}, {Label: 0}, {Label: 0}}, 8},
		{[]api.Cell{{Label: 0}, {Label: 0}, {Label: 8}}, 8},
		{[]api.Cell{{Label: 3}, {Label: 6}}, 7},
		{[]api.Cell{{Label: 1 << 63}, {Label: 1}}, 1<<63 | 1},
		{[]api.Cell{{Label: 1}, {Label: api.Top}, {Label: 2}}, api.Top},
	} {
		if g := tag.Label(c.l); g != c.want {
			t.Errorf("Label(%v) = %x, want %x", c.l, g, c.want)
		}
	}
	for _, l := range lists() {
		var want api.Label
		for _, c := range l {
			want |= c.Label
		}
		if g := tag.Label(l); g != want {
			t.Errorf("Label(%v) = %x, want %x", l, g, want)
		}
	}
}

func TestP141Join(t *testing.T) {
	g := tag.Join(2, []api.Cell{{Byte: 1, Label: 1}, {Byte: 2, Label: 2}, {Byte: 3}, {Byte: 4, Label: 4}})
	if !slices.Equal(g, []api.Cell{{Byte: 1, Label: 3}, {Byte: 2, Label: 2}, {Byte: 3, Label: 2}, {Byte: 4, Label: 6}}) {
		t.Errorf("Join = %v", g)
	}
	for _, l := range lists() {
		for _, a := range labels() {
			g := tag.Join(a, l)
			if len(g) != len(l) {
				t.Fatalf("Join of %d cells has %d", len(l), len(g))
			}
			for i, c := range g {
				if c != (api.Cell{Byte: l[i].Byte, Label: l[i].Label | a}) {
					t.Fatalf("Join(%x): %v has become %v", a, l[i], c)
				}
			}
		}
	}
}

func TestP142Cells(t *testing.T) {
	for _, v := range values() {
		g := tag.Cells(v)
		if len(g) != 32 {
			t.Fatalf("Cells(%v) has %d", v, len(g))
		}
		for i, c := range g {
			want := byte(v.Word[3-i/8] >> (8 * (7 - i%8)))
			if c != (api.Cell{Byte: want, Label: v.Label}) {
				t.Fatalf("Cells(%v): cell %d is %v", v, i, c)
			}
		}
	}
	g := tag.Cells(api.Val{Word: word.Of(0x0102), Label: 9})
	if g[31] != (api.Cell{Byte: 2, Label: 9}) || g[30] != (api.Cell{Byte: 1, Label: 9}) || g[0] != (api.Cell{Label: 9}) {
		t.Errorf("Cells(0x102 of 9) = %v", g)
	}
}

func TestP142Word(t *testing.T) {
	for _, c := range []struct {
		l    []api.Cell
		want api.Val
	}{
		{nil, api.Val{}},
		{[]api.Cell{}, api.Val{}},
		{[]api.Cell{{Byte: 1}}, api.Val{Word: api.Word{0, 0, 0, 1 << 56}}},
		{[]api.Cell{{Byte: 1, Label: 1}, {Byte: 2, Label: 4}}, api.Val{Word: api.Word{0, 0, 0, 1<<56 | 2<<48}, Label: 5}},
		{[]api.Cell{{Label: 8}}, api.Val{Label: 8}},
		{tag.Of(slices.Repeat([]byte{0}, 31), 3), api.Val{Label: 3}},
		{tag.Of(append(make([]byte, 31), 7), 3), api.Val{Word: api.Word{7}, Label: 3}},
		{append(tag.Of(make([]byte, 32), 3), api.Cell{Byte: 9, Label: 4}), api.Val{Label: 3}},
		{append(tag.Of(make([]byte, 31), 1), api.Cell{Byte: 5, Label: 2}, api.Cell{Byte: 9, Label: 4}), api.Val{Word: api.Word{5}, Label: 3}},
	} {
		if g := tag.Word(c.l); g != c.want {
			t.Errorf("Word(%v) = %v, want %v", c.l, g, c.want)
		}
	}
}

func TestP142WordOfSamples(t *testing.T) {
	for _, l := range lists() {
		var want api.Val
		for i := range 32 {
			c := cellAt(l, i)
			want.Word[3-i/8] |= uint64(c.Byte) << (8 * (7 - i%8))
			want.Label |= c.Label
		}
		if g := tag.Word(l); g != want {
			t.Errorf("Word(%v) = %v, want %v", l, g, want)
		}
	}
}

func TestP142Part(t *testing.T) {
	l := []api.Cell{{Byte: 1, Label: 1}, {Byte: 2, Label: 4}}
	p, errno := tag.Part(l, 1, 3)
	if !slices.Equal(p, []api.Cell{{Byte: 2, Label: 4}, {}, {}}) || errno != api.OK {
		t.Errorf("Part(1, 3) = %v, %v", p, errno)
	}
	for _, l := range lists() {
		if len(l) > 100 {
			continue
		}
		for at := range len(l) + 3 {
			for many := range len(l) + 5 {
				part(t, l, at, many)
			}
		}
	}
}

// part asks for a part that there is.
func part(t *testing.T, l []api.Cell, at, many int) {
	t.Helper()
	g, errno := tag.Part(l, at, many)
	if len(g) != many || errno != api.OK {
		t.Fatalf("Part(%d cells, %d, %d) has %d, %v", len(l), at, many, len(g), errno)
	}
	for i, c := range g {
		want := api.Cell{}
		if at <= len(l) {
			want = cellAt(l, at+i)
		}
		if c != want {
			t.Fatalf("Part(%d cells, %d, %d): cell %d is %v, want %v", len(l), at, many, i, c, want)
		}
	}
}

func TestP142PartAtItsBounds(t *testing.T) {
	next := noise()
	long := list(next, api.MaxPart+100)
	for _, l := range [][]api.Cell{nil, {}, {{Byte: 1, Label: 1}, {Byte: 2, Label: 4}}, long, long[:api.MaxPart], long[:api.MaxPart-1]} {
		for _, many := range []int{0, 1, 2, 32, api.MaxPart - 1, api.MaxPart} {
			for _, at := range []int{0, 1, 2, 3, 99, 100, 101, api.MaxPart - 1, api.MaxPart, api.MaxPart + 99, api.MaxPart + 100, api.MaxPart + 101, math.MaxInt32, math.MaxInt - api.MaxPart, math.MaxInt - 1, math.MaxInt} {
				part(t, l, at, many)
			}
		}
	}
}

func TestP142PartRefused(t *testing.T) {
	long := list(noise(), api.MaxPart+100)
	for _, l := range [][]api.Cell{nil, {{Byte: 1, Label: 1}, {Byte: 2, Label: 4}}, long} {
		for _, c := range [][2]int{
			{-1, 0}, {-1, 1}, {-1, 2}, {-2, 3}, {0, -1}, {1, -1}, {2, -1}, {-1, -1}, {math.MinInt, 0}, {0, math.MinInt}, {math.MinInt, math.MinInt},
			{0, api.MaxPart + 1}, {1, api.MaxPart + 1}, {api.MaxPart, api.MaxPart + 1}, {0, 1 << 17}, {0, math.MaxInt32}, {0, math.MaxInt}, {1, math.MaxInt}, {math.MaxInt, math.MaxInt},
			{math.MaxInt, -1}, {-1, api.MaxPart}, {-1, math.MaxInt}, {math.MinInt, math.MaxInt}, {math.MinInt, 1},
		} {
			if g, errno := tag.Part(l, c[0], c[1]); g != nil || errno != api.ErrArg {
				t.Errorf("Part(%d cells, %d, %d) = %d cells, %v", len(l), c[0], c[1], len(g), errno)
			}
		}
	}
}

func TestP143Alike(t *testing.T) {
	l := []api.Cell{{Byte: 1, Label: 1}, {Byte: 2, Label: 2}, {Byte: 3}}
	for _, c := range []struct {
		a, b []api.Cell
		up   api.Label
		want bool
	}{
		{nil, nil, 0, true},
		{nil, []api.Cell{}, api.Top, true},
		{nil, []api.Cell{{}}, 0, false},
		{[]api.Cell{{}}, nil, 0, false},
		{l, l, 0, true},
		{l, l, api.Top, true},
		{l, l[:2], 0, false},
		{l[:2], l, 0, false},
		{l, l[:2], 3, false},
		{l, []api.Cell{{Byte: 9, Label: 1}, {Byte: 2, Label: 2}, {Byte: 3}}, 2, true},
		{l, []api.Cell{{Byte: 9, Label: 1}, {Byte: 2, Label: 2}, {Byte: 3}}, 1, false},
		{l, []api.Cell{{Byte: 9, Label: 1}, {Byte: 2, Label: 2}, {Byte: 3}}, 3, false},
		{l, []api.Cell{{Byte: 9, Label: 1}, {Byte: 9, Label: 2}, {Byte: 3}}, 0, true},
		{l, []api.Cell{{Byte: 9, Label: 1}, {Byte: 9, Label: 2}, {Byte: 3}}, 4, true},
		{l, []api.Cell{{Byte: 1, Label: 1}, {Byte: 2, Label: 2}, {Byte: 9}}, 0, false},
		{l, []api.Cell{{Byte: 1, Label: 1}, {Byte: 2, Label: 4}, {Byte: 3}}, 0, false},
		{l, []api.Cell{{Byte: 1, Label: 1}, {Byte: 2, Label: 4}, {Byte: 3}}, 8, false},
		{l, []api.Cell{{Byte: 1, Label: 1}, {Byte: 2, Label: 4}, {Byte: 3}}, api.Top, false},
		{[]api.Cell{{Byte: 1, Label: 3}}, []api.Cell{{Byte: 2, Label: 3}}, 1, true},
		{[]api.Cell{{Byte: 1, Label: 3}}, []api.Cell{{Byte: 2, Label: 3}}, 2, true},
		{[]api.Cell{{Byte: 1, Label: 3}}, []api.Cell{{Byte: 2, Label: 3}}, 3, false},
		{[]api.Cell{{Byte: 1, Label: 3}}, []api.Cell{{Byte: 2, Label: 3}}, 7, false},
	} {
		if g := tag.Alike(c.a, c.b, c.up); g != c.want {
			t.Errorf("Alike(%v, %v, %x) = %v", c.a, c.b, c.up, g)
		}
	}
}

func TestP143AlikeOfSamples(t *testing.T) {
	for _, l := range lists() {
		if len(l) > 100 {
			continue
		}
		for _, up := range labels() {
			if !tag.Alike(l, slices.Clone(l), up) {
				t.Fatalf("%v is not like itself up to %x", l, up)
			}
			unlike(l, func(c []api.Cell, at int, labelled bool) {
				want := !labelled && !below(l[at].Label, up)
				if g, h := tag.Alike(l, c, up), tag.Alike(c, l, up); g != want || h != want {
					t.Fatalf("Alike(%v, %v, %x) = %v, the other way round %v", l, c, up, g, h)
				}
			})
			if len(l) > 0 && (tag.Alike(l, l[1:], up) || tag.Alike(l[:len(l)-1], l, up)) {
				t.Fatalf("%v is like a piece of itself up to %x", l, up)
			}
		}
	}
}

func TestP143Same(t *testing.T) {
	for _, c := range []struct {
		a, b, label, of, up uint64
		want                bool
	}{
		{5, 6, 2, 2, 1, true}, {5, 6, 1, 1, 1, false}, {5, 5, 1, 2, 3, false}, {5, 5, 1, 2, 0, false}, {5, 5, 1, 2, 4, false},
		{5, 5, 1, 1, 1, true}, {5, 5, 2, 2, 1, true}, {5, 6, 0, 0, 0, false}, {5, 5, 0, 0, 0, true}, {5, 6, 3, 3, 1, true}, {5, 6, 3, 3, 3, false}, {5, 6, 1, 1, 3, false}, {0, 0, 0, 1, 0, false},
	} {
		a, b := api.Val{Word: word.Of(c.a), Label: api.Label(c.label)}, api.Val{Word: word.Of(c.b), Label: api.Label(c.of)}
		if g := tag.Same(a, b, api.Label(c.up)); g != c.want {
			t.Errorf("Same(%v, %v, %x) = %v", a, b, c.up, g)
		}
	}
	for _, a := range values() {
		for _, b := range values() {
			for _, up := range labels() {
				want := a.Label == b.Label && (a.Word == b.Word || !below(a.Label, up))
				if g := tag.Same(a, b, up); g != want {
					t.Fatalf("Same(%v, %v, %x) = %v", a, b, up, g)
				}
			}
		}
	}
}

// TestP143SameOfEachPart has two words that are unlike in one of their numbers.
func TestP143SameOfEachPart(t *testing.T) {
	for i := range 4 {
		a, b := api.Val{Label: 1}, api.Val{Label: 1}
		b.Word[i] = 1 << (17 * i)
		if tag.Same(a, b, 1) || !tag.Same(a, b, 2) {
			t.Errorf("number %d does not count rightly", i)
		}
	}
}

func TestP143Known(t *testing.T) {
	l := []api.Cell{{Byte: 7, Label: 1}, {Byte: 0}, {Byte: 9, Label: 3}, {Byte: 8, Label: 2}, {Byte: 0, Label: 1}}
	for up, want := range map[api.Label][]said{
		0:       {{1, 0}},
		1:       {{0, 7}, {1, 0}, {4, 0}},
		2:       {{1, 0}, {3, 8}},
		3:       {{0, 7}, {1, 0}, {2, 9}, {3, 8}, {4, 0}},
		4:       {{1, 0}},
		api.Top: {{0, 7}, {1, 0}, {2, 9}, {3, 8}, {4, 0}},
	} {
		if g := known(l, up); !slices.Equal(g, want) {
			t.Errorf("Known(%x) = %v, want %v", up, g, want)
		}
	}
	for _, l := range lists() {
		for _, up := range labels() {
			if g, w := known(l, up), wellKnown(l, up); !slices.Equal(g, w) {
				t.Errorf("Known(%v, %x) = %v, want %v", l, up, g, w)
			}
		}
	}
}

func TestP143KnownLeftAndAgain(t *testing.T) {
	l := list(noise(), 40)
	for _, up := range labels() {
		each, want := tag.Known(l, up), wellKnown(l, up)
		for stop := 1; stop <= len(want); stop++ {
			var got []said
			each(func(at int, b byte) bool { got = append(got, said{at, b}); return len(got) < stop })
			if !slices.Equal(got, want[:stop]) {
				t.Errorf("left at %d, it has told %v", stop, got)
			}
		}
		pairs := 0
		for at, b := range each {
			if want[pairs/len(want)] != (said{at, b}) {
				t.Errorf("gone over again, it tells %d, %d", at, b)
			}
			for range each {
				pairs++
			}
		}
		if pairs != len(want)*len(want) {
			t.Errorf("gone over within itself, it tells %d", pairs)
		}
	}
}

// TestP143KnownIsAsItWasAskedFor changes a list behind the call, and while it is gone over.
func TestP143KnownIsAsItWasAskedFor(t *testing.T) {
	l := tag.Of([]byte{1, 2, 3, 4}, 1)
	each := tag.Known(l, 1)
	l[0], l[1].Label = api.Cell{Byte: 9, Label: 1}, 2
	var got []byte
	for at, b := range each {
		got = append(got, b)
		l[at] = api.Cell{Label: 8}
		l[len(l)-1] = api.Cell{Byte: 77}
	}
	if !bytes.Equal(got, []byte{1, 2, 3, 4}) {
		t.Errorf("Known tells %v", got)
	}
}

func TestKeepsWhatIsHandedIn(t *testing.T) {
	for _, l := range lists() {
		short, whole := roomy(l)
		was := slices.Clone(whole)
		tag.Bytes(short)
		tag.Label(short)
		tag.Join(api.Top, short)
		tag.Word(short)
		tag.Alike(short, whole, 1)
		known(short, api.Top)
		for _, many := range []int{0, 1, len(l), len(l) + 1, len(l) + 30} {
			part(t, short, 0, many)
			part(t, short, len(l), many)
			part(t, short, len(l)/2, many)
		}
		if !slices.Equal(whole, was) {
			t.Fatalf("cells that were handed in have changed: %v", whole)
		}
		if g, w := tag.Word(short), tag.Word(l); g != w {
			t.Errorf("Word looks at what is behind the list: %v", g)
		}
	}
	b := []byte{1, 2, 3, 4}
	tag.Of(b[:2], 7)
	if !bytes.Equal(b, []byte{1, 2, 3, 4}) {
		t.Errorf("bytes that were handed in have changed: %v", b)
	}
}

// TestAnswersAreNewMemory changes each answer, room behind it included, and looks at what was handed in, and at the next answer.
func TestAnswersAreNewMemory(t *testing.T) {
	l := list(noise(), 50)
	was := slices.Clone(l)
	spoil := func(answer []api.Cell) {
		for i := range answer[:cap(answer)] {
			answer[:cap(answer)][i] = api.Cell{Byte: 0xee, Label: 0xee}
		}
	}
	for _, ask := range []func() []api.Cell{
		func() []api.Cell { return tag.Join(0, l) },
		func() []api.Cell { return tag.Of([]byte{1, 2, 3}, 4) },
		func() []api.Cell { return tag.Cells(api.Val{Word: word.Of(5), Label: 3}) },
		func() []api.Cell { p, _ := tag.Part(l, 0, 50); return p },
		func() []api.Cell { p, _ := tag.Part(l, 0, 20); return p },
		func() []api.Cell { p, _ := tag.Part(l, 30, 20); return p },
		func() []api.Cell { p, _ := tag.Part(l, 30, 0); return p },
		func() []api.Cell { p, _ := tag.Part(l, 30, 50); return p },
		func() []api.Cell { p, _ := tag.Part(l, 60, 5); return p },
	} {
		first := ask()
		kept := slices.Clone(first)
		second := ask()
		spoil(second)
		if !slices.Equal(first, kept) || !slices.Equal(ask(), kept) || !slices.Equal(l, was) {
			t.Errorf("an answer shares its memory: %v", kept)
		}
	}
	b := tag.Bytes(l)
	b[0]++
	if tag.Bytes(l)[0] != l[0].Byte {
		t.Error("Bytes share their memory")
	}
}

func TestP144WordOfCells(t *testing.T) {
	for _, v := range values() {
		if g := tag.Word(tag.Cells(v)); g != v {
			t.Errorf("Word(Cells(%v)) = %v", v, g)
		}
		if g := tag.Word(append(tag.Cells(v), api.Cell{Byte: 1, Label: api.Top})); g != v {
			t.Errorf("with one more cell, Word(Cells(%v)) = %v", v, g)
		}
	}
}

func TestP144AlikeBelow(t *testing.T) {
	for _, l := range lists() {
		if len(l) > 40 {
			continue
		}
		unlike(l, func(c []api.Cell, _ int, _ bool) {
			for _, up := range labels() {
				for _, low := range labels() {
					if below(low, up) && tag.Alike(l, c, up) && !tag.Alike(l, c, low) {
						t.Fatalf("%v and %v are alike up to %x, not up to %x", l, c, up, low)
					}
				}
			}
		})
	}
	for _, a := range values() {
		for _, b := range values() {
			up := label.Join(a.Label, 2)
			if tag.Same(a, b, up) && !(tag.Same(a, b, a.Label) && tag.Same(a, b, 2) && tag.Same(a, b, 0)) {
				t.Fatalf("%v and %v are the same up to %x, not below it", a, b, up)
			}
		}
	}
}

func TestP144OfWhatIsAlike(t *testing.T) {
	for _, l := range lists() {
		if len(l) > 40 {
			continue
		}
		unlike(l, func(c []api.Cell, _ int, _ bool) {
			for _, up := range labels() {
				if tag.Alike(l, c, up) {
					staysAlike(t, l, c, up)
				}
			}
		})
	}
	for _, a := range values() {
		for _, b := range values() {
			for _, up := range labels() {
				if tag.Same(a, b, up) && !tag.Alike(tag.Cells(a), tag.Cells(b), up) {
					t.Fatalf("%v and %v are the same up to %x, their cells are not alike", a, b, up)
				}
			}
		}
	}
}

// staysAlike looks at what is told of two lists that are alike.
func staysAlike(t *testing.T, a, b []api.Cell, up api.Label) {
	t.Helper()
	if !tag.Same(tag.Word(a), tag.Word(b), up) {
		t.Fatalf("the words of %v and %v are not alike up to %x", a, b, up)
	}
	for _, with := range labels() {
		if !tag.Alike(tag.Join(with, a), tag.Join(with, b), up) {
			t.Fatalf("%v and %v, joined with %x, are not alike up to %x", a, b, with, up)
		}
	}
	for _, at := range []int{0, 1, len(a) / 2, len(a)} {
		for _, many := range []int{0, 3, len(a), len(a) + 3} {
			p, _ := tag.Part(a, at, many)
			q, _ := tag.Part(b, at, many)
			if !tag.Alike(p, q, up) {
				t.Fatalf("parts of %v and %v are not alike up to %x", a, b, up)
			}
		}
	}
	if !slices.Equal(known(a, up), known(b, up)) || tag.Label(a) != tag.Label(b) {
		t.Fatalf("of %v and %v, unlike things are told up to %x", a, b, up)
	}
}

func TestOfMany(t *testing.T) {
	const many = 1 << 21
	b := make([]byte, many)
	b[many-1] = 5
	l := tag.Of(b, 2)
	other := tag.Join(4, l)
	if g := tag.Label(other); g != 6 {
		t.Errorf("Label of many = %x", g)
	}
	if !bytes.Equal(tag.Bytes(other), b) {
		t.Error("Bytes of many have changed")
	}
	other[many-1].Byte = 6
	if again := tag.Join(4, l); tag.Alike(other, again, 6) || !tag.Alike(other, again, 2) || tag.Alike(other, l, 0) {
		t.Error("Alike of many is not right")
	}
	part(t, l, many-5, 9)
}
