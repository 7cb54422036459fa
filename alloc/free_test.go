package alloc_test

import (
	"math"
	"slices"
	"testing"

	"quillet/alloc"
	"quillet/api"
	"quillet/central"
	"quillet/mem"
	"quillet/port"
	"quillet/state"
)

// TestFree: P15.3, of a live block, by its own thread and by another one: its Death is the effect, N is the size that was asked, and it is told ahead of the block's release.
func TestFree(t *testing.T) {
	for _, pages := range []int{1, 2, 256} {
		for i, size := range someSizes(pages) {
			for self := range 2 {
				x := in(t, pages, 2)
				x.malloc(size)
				x.by(self)
				x.led(i)
				r := x.free(0)
				x.freed(r, size)
				if r.Lin != i+2 { // a Load and a CAS of its state
					t.Fatalf("Lin is %d, behind %d accesses", r.Lin, i)
				}
				if x.p.Steps() <= r.Lin {
					t.Fatal("the block is not released")
				}
				x.fails(x.free(0), api.ErrInvalid)
			}
		}
	}
}

// TestFreeAt: P15.3, At is the block's address, as the chapter's words say of each answer that is no error.
func TestFreeAt(t *testing.T) {
	x := in(t, 4, 2)
	for _, size := range []int{20, 20, 40, 1, 1, 1} {
		r := x.malloc(size)
		y := x.twin()
		y.by(1)
		if f := alloc.Free(y.p, y.g, r.At); f != (api.Result{At: r.At, N: size, Lin: 2}) {
			t.Errorf("Free(%d) = %+v", r.At, f)
		}
	}
}

// TestFreeKinds: P15.3, P15.4, blocks had by each of the calls, in any row; the size that was asked is told, the product of Calloc.
func TestFreeKinds(t *testing.T) {
	x := in(t, 8, 2)
	type block struct{ at, size int }
	var l []block
	had := func(r api.Result, size int) {
		t.Helper()
		if r.E != api.OK {
			t.Fatalf("%+v", r)
		}
		l = append(l, block{r.At, size})
	}
	had(x.malloc(5), 5)
	had(x.calloc(3, 4), 12)
	had(x.aligned(32, 7), 7)
	x.by(1)
	had(x.calloc(5, 20), 100)
	had(x.aligned(128, 3), 3)
	had(x.malloc(30), 30)
	had(x.aligned(16, 24), 24)
	for i, order := range [][]int{{0, 1, 2, 3, 4, 5, 6}, {6, 5, 4, 3, 2, 1, 0}, {3, 0, 6, 1, 5, 2, 4}} {
		y := x.twin()
		for k, n := range order {
			y.by((i + k) % 2)
			y.led(k)
			y.freed(y.free(l[n].at), l[n].size)
			for _, m := range order[:k+1] {
				y.fails(y.free(l[m].at), api.ErrInvalid)
			}
		}
		y.by(0)
		y.gives(y.malloc(512), 0, 512)
	}
}

// TestFreeNoAddress: P15.3, what is no multiple of 8, or not in the arena: ErrInvalid, found without an access, wherever blocks are live.
func TestFreeNoAddress(t *testing.T) {
	for _, pages := range []int{1, 2, 256} {
		x := in(t, pages, 2)
		x.malloc(8)
		x.malloc(8)
		n := 64 * pages
		l := []int{1, 2, 3, 4, 5, 6, 7, 9, 10, 12, 15, 17, 63, n - 1, n - 2, n - 4, n - 7, n - 9, n, n + 1, n + 7, n + 8, n + 64, 2 * n, 8 * n}
		for bit := 15; bit < 63; bit++ {
			l = append(l, 1<<bit, 1<<bit+8, -1<<bit, -1<<bit+8)
		}
		for i, at := range append(l, wild()...) {
			x.by(i % 2)
			x.led(i % 7)
			x.refuses("Free", api.ErrInvalid, func() api.Result { return alloc.Free(x.p, x.g, at) })
		}
		x.freed(x.free(0), 8)
		x.freed(x.free(8), 8)
	}
}

// TestFreeNotLive: P15.3, P15.4, a grain at which no live block begins: one of a new arena, one inside a block, one that was freed, one of a slab that is home: ErrInvalid behind one access, which is Lin, and nothing is changed.
func TestFreeNotLive(t *testing.T) {
	for _, pages := range []int{1, 2, 256} {
		x := in(t, pages, 2)
		is := func(live ...int) {
			t.Helper()
			for i, at := range []int{0, 8, 16, 24, 32, 40, 48, 56, 64*pages - 64, 64*pages - 16, 64*pages - 8} {
				if len(live) > 0 && at == live[0] || len(live) > 1 && at == live[1] {
					continue
				}
				x.by(i % 2)
				x.led(i)
				was := x.m.Copy()
				r := x.free(at)
				x.fails(r, api.ErrInvalid)
				if r.Lin != i+1 || x.p.Steps() != i+1 {
					t.Fatalf("Free(%d): Lin %d, %d accesses, behind %d", at, r.Lin, x.p.Steps(), i)
				}
				if !mem.Same(x.m, was) {
					t.Fatalf("Free(%d) changes something", at)
				}
			}
		}
		is()
		x.by(0)
		x.malloc(20)
		is(0)
		x.by(0)
		x.malloc(24)
		is(0, 24)
		x.free(0)
		is(24)
		x.free(24)
		is()
		x.by(0)
		x.malloc(64 * pages)
		is(0)
		x.free(0)
		is()
	}
}

// TestFreePromised: P15.3, a block that is promised in another one's place is not live: ErrInvalid, Lin the access at which that was seen, which is not the last one; when it has moved it is live, and where it was it is not.
func TestFreePromised(t *testing.T) {
	for self := range 2 {
		x := in(t, 2, 2)
		from := x.malloc(20).At / 8
		to, _, e := alloc.Place(x.p, x.g, 40, 1)
		if e != api.OK {
			t.Fatalf("Place: %d", e)
		}
		q := port.New(x.m, 1)
		ver := state.Promise(q, x.g, to, from, 40)
		x.by(self)
		x.led(4)
		was := x.m.Copy()
		r := x.free(8 * to)
		x.fails(r, api.ErrInvalid)
		if r.Lin != 6 || x.p.Steps() != 7 || !mem.Same(x.m, was) {
			t.Fatalf("%+v, behind 4 accesses, of %d", r, x.p.Steps())
		}
		y := x.twin() // the old one is freed ahead of the move
		y.freed(y.free(8*from), 20)
		y.fails(y.free(8*to), api.ErrInvalid)

		if !state.Move(q, x.g, from, state.Look(q, x.g, from).S, to, ver) {
			t.Fatal("Move: false")
		}
		x.by(self)
		x.led(4)
		x.fails(x.free(8*from), api.ErrInvalid)
		r = x.free(8 * to)
		x.freed(r, 40)
		if r.Lin != 4+1+5 { // a Load of each, a CAS, a Load, a CAS, behind the first Free's Load
			t.Fatalf("%+v", r)
		}
		x.fails(x.free(8*to), api.ErrInvalid)
	}
}

// TestHadAgain: P15.3, P15.4, a block that is freed can be had again, by its own thread and by another one, any number of times, of each size; all the arena, too.
func TestHadAgain(t *testing.T) {
	for _, pages := range []int{1, 2, 3} {
		x := in(t, pages, 3)
		for round := range 3 {
			for size := 1; size <= 64*pages; size++ {
				x.by((size + round) % 3)
				r := x.malloc(size)
				x.gives(r, r.At, roomOf(size, 1))
				x.by((size + 2*round) % 3)
				x.freed(x.free(r.At), size)
				r = x.malloc(size)
				x.gives(r, r.At, roomOf(size, 1))
				x.freed(x.free(r.At), size)
			}
		}
	}
	g := arena(t, 4, 2)
	m := fresh(t, g)
	l := []api.Port{port.New(m, 0), port.New(m, 1)}
	for round := range 3000 { // more often than there are words that might be used up
		size := 33 + round%32
		var at []int
		for range 4 {
			r := alloc.Malloc(l[round/3%2], g, size)
			if r.E != api.OK || slices.Contains(at, r.At) {
				t.Fatalf("round %d: %+v", round, r)
			}
			at = append(at, r.At)
		}
		for _, at := range at {
			if r := alloc.Free(l[round%2], g, at); r.E != api.OK || r.N != size {
				t.Fatalf("round %d: %+v", round, r)
			}
		}
		size -= 32
		if r := alloc.Malloc(l[round%2], g, size); r.E != api.OK || alloc.Free(l[round/2%2], g, r.At).N != size {
			t.Fatalf("round %d: %+v", round, r)
		}
	}
	for _, p := range l {
		central.Flush(p, g)
	}
	if e := central.Trim(l[0], g); e != api.OK {
		t.Fatalf("Trim = %d", e)
	}
	if what := unclean(m, g); what != "" {
		t.Error(what)
	}
}

// TestSizesAreTold: P15.3, each size up to the greatest arena's is told by its Free.
func TestSizesAreTold(t *testing.T) {
	g := arena(t, 256, 1)
	p := port.New(fresh(t, g), 0)
	for size := 1; size <= 64*256; size++ {
		if size > 130 && size < 16300 && size%61 > 0 {
			continue
		}
		r := alloc.Malloc(p, g, size)
		if r.E != api.OK || r.N < size || r.N != roomOf(size, 1) {
			t.Fatalf("Malloc(%d) = %+v", size, r)
		}
		if f := alloc.Free(p, g, r.At); f.E != api.OK || f.N != size {
			t.Fatalf("Free(%d) = %+v, of size %d", r.At, f, size)
		}
	}
	if r := alloc.Malloc(p, g, math.MaxInt16); r.E != api.ErrSize {
		t.Errorf("%+v", r)
	}
}
