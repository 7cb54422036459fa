package word_test

import (
	"math"
	"testing"

	"quillet/api"
	"quillet/word"
)

// The tests name the promises of shared/doc/01-word.md that they hold the package to.

type ref = word.Ref
type state = word.State
type page = word.Page
type bits = word.Bits

// TestExamples: P1.1, P1.2, the chapter's examples.
func TestExamples(t *testing.T) {
	r := ref{Idx: 5, Mark: true, Ver: 1}
	if got := r.Word(); got != 0x101000005 {
		t.Errorf("%+v.Word() = %#x", r, got)
	}
	if got := word.RefOf(0x101000005); got != r {
		t.Errorf("RefOf(0x101000005) = %+v", got)
	}
	b := bits{Map: 0b10110, Has: true, Class: 1}
	for _, x := range []struct{ got, want uint64 }{
		{state{Kind: api.Live, Size: 24}.Word(), 0x61},
		{state{Kind: api.Pend, Size: 8, Other: 3, Ver: 2}.Word(), 0x2000c0022},
		{page{Kind: api.Run, Len: 3}.Word(), 0x1c},
		{page{Kind: api.Slab, Len: 1, Class: 2, Owner: 5}.Word(), 0x5400b},
		{b.Word(), 0x216},
	} {
		if x.got != x.want {
			t.Errorf("Word: %#x, want %#x", x.got, x.want)
		}
	}
	if b.First() != 1 || b.Full(3) {
		t.Errorf("%+v: First %d, Full(3) %v", b, b.First(), b.Full(3))
	}
}

// field is a row of the chapter's table, with a way to set it alone, and to read it.
type field struct {
	name      string
	low, high int
	word      func(v int) uint64
	read      func(w uint64) int
}

func one(b bool) int {
	if b {
		return 1
	}
	return 0
}

// fields of the chapter's table, but for the class of Bits, which is packed as one more.
func fields() []field {
	return []field{
		{"Ref.Idx", 0, 23, func(v int) uint64 { return ref{Idx: v}.Word() }, func(w uint64) int { return word.RefOf(w).Idx }},
		{"Ref.Mark", 24, 24, func(v int) uint64 { return ref{Mark: v&1 == 1}.Word() }, func(w uint64) int { return one(word.RefOf(w).Mark) }},
		{"Ref.Ver", 32, 63, func(v int) uint64 { return ref{Ver: uint32(v)}.Word() }, func(w uint64) int { return int(word.RefOf(w).Ver) }},
		{"State.Kind", 0, 1, func(v int) uint64 { return state{Kind: v}.Word() }, func(w uint64) int { return word.StateOf(w).Kind }},
		{"State.Size", 2, 17, func(v int) uint64 { return state{Size: v}.Word() }, func(w uint64) int { return word.StateOf(w).Size }},
		{"State.Other", 18, 29, func(v int) uint64 { return state{Other: v}.Word() }, func(w uint64) int { return word.StateOf(w).Other }},
		{"State.Ver", 32, 63, func(v int) uint64 { return state{Ver: uint32(v)}.Word() }, func(w uint64) int { return int(word.StateOf(w).Ver) }},
		{"Page.Kind", 0, 2, func(v int) uint64 { return page{Kind: v}.Word() }, func(w uint64) int { return word.PageOf(w).Kind }},
		{"Page.Len", 3, 12, func(v int) uint64 { return page{Len: v}.Word() }, func(w uint64) int { return word.PageOf(w).Len }},
		{"Page.Class", 13, 14, func(v int) uint64 { return page{Class: v}.Word() }, func(w uint64) int { return word.PageOf(w).Class }},
		{"Page.Owner", 16, 22, func(v int) uint64 { return page{Owner: v}.Word() }, func(w uint64) int { return word.PageOf(w).Owner }},
		{"Bits.Map", 0, 7, func(v int) uint64 { return bits{Map: uint8(v)}.Word() }, func(w uint64) int { return int(word.BitsOf(w).Map) }},
		{"Bits.Ver", 32, 63, func(v int) uint64 { return bits{Ver: uint32(v)}.Word() }, func(w uint64) int { return int(word.BitsOf(w).Ver) }},
	}
}

// TestEachBit: P1.1, each bit of a word is of its field alone, both ways.
func TestEachBit(t *testing.T) {
	for _, f := range fields() {
		for bit := range 64 {
			want := 0
			if bit >= f.low && bit <= f.high {
				want = 1 << (bit - f.low)
			}
			if got := f.read(1 << bit); got != want {
				t.Errorf("%s of bit %d alone: %#x, want %#x", f.name, bit, got, want)
			}
			if want == 0 {
				continue
			}
			if got := f.word(want); got != 1<<bit {
				t.Errorf("%s %#x: word %#x, want bit %d", f.name, want, got, bit)
			}
			if got := f.read(^uint64(1 << bit)); got != 1<<(f.high-f.low+1)-1-want {
				t.Errorf("%s of all but bit %d: %#x", f.name, bit, got)
			}
		}
	}
}

// TestWhatDoesNotFit: P1.1, a number above its bits, or below 0, keeps its lowest bits alone.
func TestWhatDoesNotFit(t *testing.T) {
	for _, f := range fields() {
		wide := f.high - f.low + 1
		most := 1<<wide - 1
		for _, x := range []struct{ v, kept int }{
			{0, 0}, {most, most}, {most + 1, 0}, {most + 2, 1}, {3*(most+1) + 1, 1},
			{-1, most}, {-2, most - 1}, {-most, 1}, {-most - 1, 0},
			{math.MaxInt, most}, {math.MinInt, 0},
		} {
			w := f.word(x.v)
			if w != uint64(x.kept)<<f.low {
				t.Errorf("%s %d: word %#x, want %#x kept", f.name, x.v, w, x.kept)
			}
			if got := f.read(w); got != x.kept {
				t.Errorf("%s %d: read again %#x, want %#x", f.name, x.v, got, x.kept)
			}
		}
	}
}

// TestBitsOfNoField: P1.1, they are 0 in what is packed, and not looked at.
func TestBitsOfNoField(t *testing.T) {
	const refNone, stateNone, pageNone, bitsNone = uint64(0xfe000000), uint64(0xc0000000), ^uint64(0x7f7fff), uint64(0xfffff800)
	for _, w := range []uint64{0, refNone, stateNone, pageNone, bitsNone, math.MaxUint64, 0x123456789abcdef0, 0xfedcba9876543210} {
		for _, x := range []struct {
			name       string
			none       uint64
			again      uint64
			same, zero bool
		}{
			{"Ref", refNone, word.RefOf(w).Word(), word.RefOf(w) == word.RefOf(w&^refNone), word.RefOf(w&refNone) == ref{}},
			{"State", stateNone, word.StateOf(w).Word(), word.StateOf(w) == word.StateOf(w&^stateNone), word.StateOf(w&stateNone) == state{}},
			{"Page", pageNone, word.PageOf(w).Word(), word.PageOf(w) == word.PageOf(w&^pageNone), word.PageOf(w&pageNone) == page{}},
			{"Bits", bitsNone, word.BitsOf(w).Word(), word.BitsOf(w) == word.BitsOf(w&^bitsNone), word.BitsOf(w&bitsNone) == bits{}},
		} {
			if x.again != w&^x.none || !x.same || !x.zero {
				t.Errorf("%s of %#x: packed again %#x, same %v, zero %v", x.name, w, x.again, x.same, x.zero)
			}
		}
	}
	all := ref{Idx: -1, Mark: true, Ver: math.MaxUint32}
	if got := all.Word(); got != ^refNone {
		t.Errorf("Ref of ones: %#x", got)
	}
	if got := (state{Kind: -1, Size: -1, Other: -1, Ver: math.MaxUint32}).Word(); got != ^stateNone {
		t.Errorf("State of ones: %#x", got)
	}
	if got := (page{Kind: -1, Len: -1, Class: -1, Owner: -1}).Word(); got != ^pageNone {
		t.Errorf("Page of ones: %#x", got)
	}
	if got := (bits{Map: 255, Has: true, Class: 6, Ver: math.MaxUint32}).Word(); got != ^bitsNone {
		t.Errorf("Bits of ones: %#x", got)
	}
}

// TestBitsClass: P1.1, a Bits that does not Have a class has 0 at 8 to 10; one that has, the lowest three bits of it and 1.
func TestBitsClass(t *testing.T) {
	for _, x := range []struct {
		class int
		at    uint64
	}{
		{0, 1}, {1, 2}, {2, 3}, {3, 4}, {4, 5}, {6, 7}, {7, 0}, {8, 1}, {15, 0}, {1000, 1001 & 7},
		{-1, 0}, {-2, 7}, {-8, 1}, {math.MaxInt, 0}, {math.MinInt, 1},
	} {
		b := bits{Map: 0xa5, Has: true, Class: x.class, Ver: 7}
		if got, want := b.Word(), 0x7000000a5|x.at<<8; got != want {
			t.Errorf("class %d: %#x, want %#x", x.class, got, want)
		}
		b.Has = false
		if got := b.Word(); got != 0x7000000a5 {
			t.Errorf("class %d that it does not have: %#x", x.class, got)
		}
	}
	for at := range 8 {
		want := bits{Map: 0x5a, Ver: 9}
		if at > 0 {
			want.Has, want.Class = true, at-1
		}
		if got := word.BitsOf(0x90000005a | uint64(at)<<8); got != want {
			t.Errorf("BitsOf with %d at the class: %+v, want %+v", at, got, want)
		}
	}
	if got := word.BitsOf(0xfffff8ff); got != (bits{Map: 255}) {
		t.Errorf("BitsOf without a class: %+v", got)
	}
}

// TestFirstAndFull: P1.2, of all maps; Full of numbers below 1 and above 8, too. What else a Bits has does not count.
func TestFirstAndFull(t *testing.T) {
	if got := (bits{}).First(); got != -1 {
		t.Errorf("First of none: %d", got)
	}
	for m := range 256 {
		first, ones := -1, 0
		for i := 7; i >= 0; i-- {
			if m>>i&1 == 1 {
				first, ones = i, ones+1
			} else {
				ones = 0
			}
		}
		for _, b := range []bits{{Map: uint8(m)}, {Map: uint8(m), Has: true, Class: 3, Ver: math.MaxUint32}} {
			if got := b.First(); got != first {
				t.Errorf("%+v: First %d, want %d", b, got, first)
			}
			for _, n := range []int{math.MinInt, -9, -1, 0, 1, 2, 3, 4, 5, 6, 7, 8, 9, 16, 64, 65, 256, math.MaxInt} {
				if got := b.Full(n); got != (n <= ones) {
					t.Errorf("%+v: Full(%d) %v", b, n, got)
				}
			}
		}
	}
}

// ends of a field's numbers, and some between.
func ends(wide int) []int {
	most := 1<<wide - 1
	l := []int{0, 1}
	for _, v := range []int{2, 3, most / 3, most / 2, most/2 + 1, most - 1, most} {
		if v > l[len(l)-1] {
			l = append(l, v)
		}
	}
	return l
}

// keep asks that the fields are had again of their word, and that the word is no other fields' one.
func keep[F comparable](t *testing.T, had map[uint64]F, f F, w uint64, again F) {
	t.Helper()
	if again != f {
		t.Fatalf("%+v: %#x: had again as %+v", f, w, again)
	}
	if other, ok := had[w]; ok && other != f {
		t.Fatalf("%+v and %+v: both %#x", f, other, w)
	}
	had[w] = f
}

// TestHadAgain: P1.3, fields that fit are had again of their word; unlike ones have unlike words.
func TestHadAgain(t *testing.T) {
	vers := ends(32)
	refs, states, allBits := map[uint64]ref{}, map[uint64]state{}, map[uint64]bits{}
	for _, v := range vers {
		for _, i := range ends(24) {
			for _, m := range []bool{false, true} {
				r := ref{Idx: i, Mark: m, Ver: uint32(v)}
				keep(t, refs, r, r.Word(), word.RefOf(r.Word()))
			}
		}
		for _, kind := range []int{api.None, api.Live, api.Pend, api.Moved} {
			for _, size := range ends(16) {
				for _, other := range ends(12) {
					s := state{Kind: kind, Size: size, Other: other, Ver: uint32(v)}
					keep(t, states, s, s.Word(), word.StateOf(s.Word()))
				}
			}
		}
		for m := range 256 {
			for class := -1; class < api.Classes; class++ {
				b := bits{Map: uint8(m), Ver: uint32(v)}
				if class >= 0 {
					b.Has, b.Class = true, class
				}
				keep(t, allBits, b, b.Word(), word.BitsOf(b.Word()))
			}
		}
	}
}

// TestPagesHadAgain: P1.3, of each length that fits.
func TestPagesHadAgain(t *testing.T) {
	pages := map[uint64]page{}
	for _, kind := range []int{api.Body, api.Free, api.Tail, api.Slab, api.Run, api.Defer, 7} {
		for n := range 1 << 10 {
			for class := range api.Classes {
				for _, owner := range []int{0, 1, 31, 32, api.MaxThreads - 1, 127} {
					p := page{Kind: kind, Len: n, Class: class, Owner: owner}
					keep(t, pages, p, p.Word(), word.PageOf(p.Word()))
				}
			}
		}
	}
}
