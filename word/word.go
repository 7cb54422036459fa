// Package word is layer 1: see shared/doc/01-word.md.
package word

import "math/bits"

// Ref names a node.
type Ref struct {
	Idx  int
	Mark bool
	Ver  uint32
}

// State is what a grain's state has.
type State struct {
	Kind, Size, Other int
	Ver               uint32
}

// Page is what a page's word has.
type Page struct{ Kind, Len, Class, Owner int }

// Bits says which blocks of a page are home.
type Bits struct {
	Map   uint8
	Has   bool
	Class int
	Ver   uint32
}

// Where fields stand in words: the lowest bit of each, and how many bits it has. Word and its counterpart read the same ones, so that they can't part.
const (
	verLow, verWide = 32, 32 // of all words but a page's

	idxLow, idxWide   = 0, 24
	markLow, markWide = 24, 1

	stateKindLow, stateKindWide = 0, 2
	sizeLow, sizeWide           = 2, 16
	otherLow, otherWide         = 18, 12

	pageKindLow, pageKindWide   = 0, 3
	lenLow, lenWide             = 3, 10
	pageClassLow, pageClassWide = 13, 2
	ownerLow, ownerWide         = 16, 7

	mapLow, mapWide             = 0, 8
	bitsClassLow, bitsClassWide = 8, 3
)

// number is what a field is told as.
type number interface{ int | uint8 | uint32 }

// cut takes a field out of a word.
func cut[N number](w uint64, low, wide uint) N {
	return N((w >> low) & (1<<wide - 1))
}

// lay puts a field where it stands, by its lowest bits alone: what does not fit must not reach its neighbours.
func lay[N number](v N, low, wide uint) uint64 {
	return (uint64(v) & (1<<wide - 1)) << low
}

// Word packs the fields.
func (r Ref) Word() uint64 {
	mark := 0
	if r.Mark {
		mark = 1
	}
	return lay(r.Idx, idxLow, idxWide) | lay(mark, markLow, markWide) | lay(r.Ver, verLow, verWide)
}

// RefOf is the counterpart of Ref's Word.
func RefOf(w uint64) Ref {
	return Ref{
		Idx:  cut[int](w, idxLow, idxWide),
		Mark: cut[int](w, markLow, markWide) == 1,
		Ver:  cut[uint32](w, verLow, verWide),
	}
}

// Word packs the fields.
func (s State) Word() uint64 {
	return lay(s.Kind, stateKindLow, stateKindWide) | lay(s.Size, sizeLow, sizeWide) | lay(s.Other, otherLow, otherWide) | lay(s.Ver, verLow, verWide)
}

// StateOf is the counterpart of State's Word.
func StateOf(w uint64) State {
	return State{
		Kind:  cut[int](w, stateKindLow, stateKindWide),
		Size:  cut[int](w, sizeLow, sizeWide),
		Other: cut[int](w, otherLow, otherWide),
		Ver:   cut[uint32](w, verLow, verWide),
	}
}

// Word packs the fields.
func (p Page) Word() uint64 {
	return lay(p.Kind, pageKindLow, pageKindWide) | lay(p.Len, lenLow, lenWide) | lay(p.Class, pageClassLow, pageClassWide) | lay(p.Owner, ownerLow, ownerWide)
}

// PageOf is the counterpart of Page's Word.
func PageOf(w uint64) Page {
	return Page{
		Kind:  cut[int](w, pageKindLow, pageKindWide),
		Len:   cut[int](w, lenLow, lenWide),
		Class: cut[int](w, pageClassLow, pageClassWide),
		Owner: cut[int](w, ownerLow, ownerWide),
	}
}

// Word packs the fields. The class is packed as one more, for 0 there says that there is none.
func (b Bits) Word() uint64 {
	w := lay(b.Map, mapLow, mapWide) | lay(b.Ver, verLow, verWide)
	if b.Has {
		w |= lay(b.Class+1, bitsClassLow, bitsClassWide)
	}
	return w
}

// BitsOf is the counterpart of Bits' Word.
func BitsOf(w uint64) Bits {
	b := Bits{
		Map: cut[uint8](w, mapLow, mapWide),
		Ver: cut[uint32](w, verLow, verWide),
	}
	if more := cut[int](w, bitsClassLow, bitsClassWide); more != 0 {
		b.Has, b.Class = true, more-1
	}
	return b
}

// First is the lowest block that is home; -1, if none is.
func (b Bits) First() int {
	if b.Map == 0 {
		return -1
	}
	return bits.TrailingZeros8(b.Map)
}

// Full asks whether the first n blocks are home. The count of ones from bit 0 on is 0 to 8, so an n beyond these needs no case of its own.
func (b Bits) Full(n int) bool {
	return bits.TrailingZeros8(^b.Map) >= n
}
