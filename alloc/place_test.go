package alloc_test

import (
	"math"
	"testing"

	"quillet/alloc"
	"quillet/api"
	"quillet/geom"
	"quillet/mem"
	"quillet/port"
)

// place is Place, held to its twin; it tells nothing.
func (x *lab) place(size, align int) (int, int, api.Errno) {
	x.t.Helper()
	y := x.twin()
	grain, e := y.places(size, align)
	usable := roomOf(size, align)
	if e != api.OK {
		usable = 0
	}
	x.placed(size, align, grain, usable, e)
	x.alike("Place", y)
	return grain, usable, e
}

// placed holds Place to what it tells, and to nothing that is told to the port.
func (x *lab) placed(size, align, grain, usable int, e api.Errno) {
	x.t.Helper()
	k, n, err := alloc.Place(x.p, x.g, size, align)
	if k != grain || n != usable || err != e {
		x.t.Fatalf("Place(%d, %d) = %d, %d, %d, want %d, %d, %d", size, align, k, n, err, grain, usable, e)
	}
	if len(x.p.told) > 0 {
		x.t.Fatalf("Place(%d, %d) tells what only a call tells", size, align)
	}
}

// unplaced holds it to an error that is found without an access.
func (x *lab) unplaced(size, align int, e api.Errno) {
	x.t.Helper()
	y := x.twin()
	x.placed(size, align, 0, 0, e)
	x.alike("Place", y)
}

// powers are all alignments.
func powers() []int {
	var l []int
	for bit := range 63 {
		l = append(l, 1<<bit)
	}
	return l
}

// noPowers are numbers that are no alignments.
func noPowers() []int {
	l := append(wild(), 0, 3, 5, 6, 7, 9, 10, 12, 24, 31, 33, 40, 48, 63, 65, 96, 100, 192)
	for bit := 2; bit < 63; bit++ {
		l = append(l, 1<<bit-1, 1<<bit+1, -1<<bit)
	}
	return l
}

// TestPlaceClasses: P15.1, which block is had for a size and an alignment, written out: its class's, or pages at a multiple.
func TestPlaceClasses(t *testing.T) {
	for _, y := range []struct{ size, align, usable int }{
		{1, 1, 8}, {7, 1, 8}, {8, 1, 8}, {9, 1, 16}, {16, 1, 16}, {17, 1, 24}, {24, 1, 24}, {25, 1, 32}, {32, 1, 32}, {33, 1, 64},
		{8, 8, 8}, {8, 16, 16}, {9, 8, 16}, {16, 16, 16}, {17, 8, 24}, {17, 16, 32}, {24, 16, 32}, {8, 32, 32}, {32, 32, 32}, {33, 32, 64},
		{1, 64, 64}, {8, 64, 64}, {32, 64, 64}, {64, 64, 64}, {64, 1, 64}, {65, 1, 128}, {128, 1, 128}, {129, 1, 192}, {1, 128, 64}, {65, 256, 128},
		{256, 1, 256}, {255, 2, 256}, {193, 256, 256}, {256, 1 << 62, 256}, {1, 1 << 62, 64},
	} {
		x := in(t, 4, 1)
		x.placed(y.size, y.align, 0, y.usable, api.OK)
	}
}

// TestPlaceMultiples: P15.1, pages are had at a multiple of align / 64 pages, 1 at least, in an arena whose first page is taken; where there is no such page, there is no room.
func TestPlaceMultiples(t *testing.T) {
	for _, y := range []struct{ size, align, page int }{
		{33, 1, 1}, {33, 32, 1}, {33, 64, 1}, {33, 128, 2}, {33, 256, 4}, {33, 512, -1}, {33, 1 << 62, -1}, {65, 64, 1}, {65, 128, 2}, {256, 128, 2}, {257, 128, 2}, {321, 128, 2}, {385, 128, -1}, {256, 256, 4}, {257, 256, -1}, {448, 64, 1}, {449, 64, -1},
	} {
		x := in(t, 8, 1)
		x.place(1, 1)
		if y.page < 0 {
			grain, usable, e := x.place(y.size, y.align)
			if grain != 0 || usable != 0 || e != api.ErrNoMem {
				t.Errorf("Place(%d, %d) = %d, %d, %d", y.size, y.align, grain, usable, e)
			}
			continue
		}
		x.placed(y.size, y.align, 8*y.page, 64*pagesOf(y.size), api.OK)
	}
}

// TestPlace: P15.1, each size of some arenas, at each alignment, in arenas as new and in ones that have blocks, as central tells, access by access.
func TestPlace(t *testing.T) {
	for _, pages := range []int{1, 2, 3, 5} {
		x := in(t, pages, 2)
		taken := in(t, pages, 2)
		taken.place(8, 1)
		full := in(t, pages, 2)
		full.place(64*pages, 1)
		for size := 1; size <= 64*pages; size++ {
			for i, align := range powers() {
				if align > 1024 && (size+i)%7 > 0 {
					continue
				}
				for _, from := range []*lab{x, taken, full} {
					y := from.twin()
					y.by(size % 2)
					y.led(i % 3)
					y.place(size, align)
				}
			}
		}
	}
}

// TestPlaceErrors: P15.1, R2, ErrSize of a size that is none, ahead of ErrAlign of an alignment that is none; beside an error all else is 0, and nothing is done.
func TestPlaceErrors(t *testing.T) {
	for _, pages := range []int{1, 2, 7, 256} {
		x := in(t, pages, 2)
		for i, size := range append(wild(), 0, 64*pages+1, 64*pages+7, 64*pages+64) {
			x.by(i % 2)
			x.led(i % 5)
			for _, align := range []int{1, 8, 64, 1 << 62, 0, 3, -1, -8, math.MinInt, math.MaxInt} {
				x.unplaced(size, align, api.ErrSize)
			}
		}
		for i, align := range noPowers() {
			x.by(i % 2)
			x.led(i % 5)
			for _, size := range []int{1, 8, 33, 64, 64 * pages} {
				x.unplaced(size, align, api.ErrAlign)
			}
		}
		for _, size := range []int{1, 64*pages - 1, 64 * pages} { // the edges themselves are good
			y := x.twin()
			y.place(size, 1)
		}
	}
}

// TestPlaceNoRoom: P15.1, the error that central tells: ErrNoMem, and ErrBusy, where another thread has the lock; beside it all else is 0.
func TestPlaceNoRoom(t *testing.T) {
	x := in(t, 2, 2)
	is := func(size, align int, want api.Errno) {
		t.Helper()
		grain, usable, e := x.place(size, align)
		if e != want || grain != 0 || usable != 0 {
			t.Fatalf("Place(%d, %d) = %d, %d, %d, want the error %d", size, align, grain, usable, e, want)
		}
	}
	x.place(8, 1)
	is(65, 1, api.ErrNoMem)
	is(33, 128, api.ErrNoMem)
	x.heldBy(1)
	is(16, 1, api.ErrBusy)
	is(33, 1, api.ErrBusy)
	is(128, 1, api.ErrBusy)
	x.place(8, 1) // a block of a slab that there is needs no lock
	x.heldBy(-1)
	x.place(33, 1)
	is(16, 1, api.ErrNoMem)
	is(33, 1, api.ErrNoMem)
	for range 6 {
		x.place(1, 1)
	}
	is(1, 1, api.ErrNoMem)
}

// TestNoPort: P15.1 to P15.3, a port that is nil, and a geometry of no pages: ErrNoMem, ahead of all other errors, and nothing is done.
func TestNoPort(t *testing.T) {
	x := in(t, 1, 1)
	was := x.m.Copy()
	none := api.Result{E: api.ErrNoMem}
	for _, y := range []struct {
		p api.Port
		g geom.Geom
	}{{nil, x.g}, {nil, geom.Geom{}}, {x.p, geom.Geom{}}} {
		for _, a := range []int{0, 1, 3, 8, 64, 65, -1, math.MaxInt, math.MinInt} {
			if alloc.Malloc(y.p, y.g, a) != none || alloc.Free(y.p, y.g, a) != none {
				t.Fatalf("%d: another answer than ErrNoMem", a)
			}
			for _, b := range []int{0, 1, 2, 3, 8, 64, -1, math.MaxInt, math.MinInt} {
				if alloc.Calloc(y.p, y.g, a, b) != none || alloc.Aligned(y.p, y.g, b, a) != none {
					t.Fatalf("%d, %d: another answer than ErrNoMem", a, b)
				}
				if grain, usable, e := alloc.Place(y.p, y.g, a, b); grain != 0 || usable != 0 || e != api.ErrNoMem {
					t.Fatalf("Place(%d, %d) = %d, %d, %d", a, b, grain, usable, e)
				}
			}
		}
	}
	if len(x.p.seen) > 0 || len(x.p.told) > 0 || !mem.Same(x.m, was) {
		t.Error("something is done")
	}
}

// allCalls does each call with numbers of all kinds.
func allCalls(p api.Port, g geom.Geom) {
	for _, a := range []int{0, 1, 8, 20, 33, 64, 65, 128, -1, -8, math.MaxInt, math.MinInt} {
		alloc.Malloc(p, g, a)
		for _, b := range []int{0, 1, 2, 3, 16, 64, 1 << 62, -1, math.MaxInt, math.MinInt} {
			alloc.Place(p, g, a, b)
			alloc.Calloc(p, g, a, b)
			alloc.Aligned(p, g, b, a)
		}
		alloc.Free(p, g, a)
		alloc.Free(p, g, 8*a)
	}
}

// TestAnyMemory: R1, a memory without words, or with too few, or none, and one that none has made ready: each call ends; so it does of a port of no thread, and no block is had where there are no words.
func TestAnyMemory(t *testing.T) {
	g := arena(t, 2, 2)
	empty, _ := mem.New(0, 0)
	for _, m := range []*mem.Memory{nil, empty} {
		p := port.New(m, 0)
		allCalls(p, g)
		if r := alloc.Malloc(p, g, 8); r.E == api.OK {
			t.Errorf("Malloc = %+v", r)
		}
	}
	for words := 0; words < g.Words(); words += 3 {
		m, _ := mem.New(words, 64)
		allCalls(port.New(m, 1), g)
	}
	for seed := range 100 {
		m, c := zeros(t, g), chance(seed)
		for at := range m.Words() {
			switch c.below(3) {
			case 0:
				store(m, at, uint64(c.below(64)))
			case 1:
				store(m, at, uint64(c.below(1<<30))<<32|uint64(c.below(1<<30)))
			}
		}
		if seed%4 > 0 {
			store(m, g.Lock(), 0)
		}
		for _, self := range []int{0, 1, 2, 64, -1, math.MaxInt, math.MinInt} {
			allCalls(port.New(m.Copy(), self), g)
		}
	}
	var none *port.Direct
	allCalls(none, g)
}
