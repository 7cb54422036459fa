package alloc_test

import (
	"math"
	"testing"

	"quillet/alloc"
	"quillet/api"
)

// someSizes are sizes about the edges that there are: of classes, of pages, of the arena.
func someSizes(pages int) []int {
	l := []int{1, 2, 7, 8, 9, 15, 16, 17, 23, 24, 25, 31, 32, 33, 63, 64}
	for _, size := range []int{65, 127, 128, 129, 64*pages - 64, 64*pages - 63, 64*pages - 1, 64 * pages} {
		if size > 64 && size <= 64*pages {
			l = append(l, size)
		}
	}
	return l
}

// bornAt holds an answer that was told of a call of the lab's thread to the Store of a state of that size, which is the last of its accesses, and Lin.
func (x *lab) bornAt(r api.Result, size, led int, did []api.Access) {
	x.t.Helper()
	if r.Lin != led+len(did) || r.Lin != x.p.Steps() {
		x.t.Fatalf("Lin is %d, of %d accesses behind %d", r.Lin, len(did), led)
	}
	last := did[len(did)-1]
	if last.Kind != api.Store || last.At != x.g.State(r.At/8) || last.A&3 != api.Live || last.A>>2&65535 != uint64(size) {
		x.t.Fatalf("the access at Lin is %+v, of At %d", last, r.At)
	}
}

// TestMalloc: P15.2, Place of alignment 1, and its Birth with size, whose access is Lin; told behind that, and returned, the same.
func TestMalloc(t *testing.T) {
	for _, pages := range []int{1, 2, 3, 256} {
		x := in(t, pages, 3)
		for i, size := range someSizes(pages) {
			for led := range 3 {
				y := x.twin()
				y.by(i % 3)
				y.led(led)
				y.gives(y.malloc(size), 0, roomOf(size, 1))

				y = x.twin()
				y.by(i % 3)
				y.led(led)
				y.bornAt(alloc.Malloc(y.p, y.g, size), size, led, y.p.seen)
			}
		}
	}
}

// TestMallocs: P15.2, P15.4, one behind the other, till there is no room: blocks of a class lie side by side in their pages, pages behind them.
func TestMallocs(t *testing.T) {
	for _, y := range []struct {
		pages int
		sizes []int
		at    []int
	}{
		{1, []int{1, 2, 3, 4, 5, 6, 7, 8, 1}, []int{0, 8, 16, 24, 32, 40, 48, 56, -1}},
		{1, []int{9, 10, 11, 16, 16}, []int{0, 16, 32, 48, -1}},
		{1, []int{17, 24, 17}, []int{0, 24, -1}},
		{1, []int{25, 32, 1}, []int{0, 32, -1}},
		{1, []int{33, 1, 33}, []int{0, -1, -1}},
		{1, []int{64, 64}, []int{0, -1}},
		{2, []int{65, 1}, []int{0, -1}},
		{4, []int{8, 16, 8, 20, 16, 20, 20, 40, 8, 32}, []int{0, 64, 8, 128, 80, 152, 192, -1, 16, -1}},
		{4, []int{100, 20, 33, 20, 1}, []int{0, 128, 192, 152, -1}},
	} {
		x := in(t, y.pages, 2)
		for i, size := range y.sizes {
			x.by(i % 2)
			x.led(i)
			if r := x.malloc(size); y.at[i] < 0 {
				x.fails(r, api.ErrNoMem)
			} else {
				x.gives(r, y.at[i], roomOf(size, 1))
			}
		}
	}
}

// TestAligned: P15.2, likewise, of that alignment.
func TestAligned(t *testing.T) {
	for _, pages := range []int{1, 2, 5} {
		x := in(t, pages, 2)
		taken := in(t, pages, 2)
		taken.malloc(8)
		taken.malloc(8)
		taken.malloc(16)
		for i, size := range someSizes(pages) {
			for _, align := range powers() {
				if align > 512 && align < 1<<58 && i > 0 {
					continue
				}
				y := x.twin()
				y.led(i)
				y.gives(y.aligned(align, size), 0, roomOf(size, align))
				y = taken.twin()
				y.by(1)
				if r := y.aligned(align, size); r.E == api.OK && (r.At%align != 0 || r.At%8 != 0) {
					t.Fatalf("Aligned(%d, %d) = %+v", align, size, r)
				}
			}
			y := x.twin()
			y.led(i)
			y.bornAt(alloc.Aligned(y.p, y.g, 16, size), size, i, y.p.seen)
		}
	}
	x := in(t, 8, 1) // where blocks of each alignment lie that are had one behind the other
	for _, y := range []struct{ align, size, at, n int }{
		{8, 8, 0, 8}, {16, 8, 64, 16}, {16, 17, 128, 32}, {32, 8, 160, 32}, {8, 17, 192, 24}, {64, 8, 256, 64}, {256, 1, -1, 0}, {128, 1, 384, 64}, {1, 65, -1, 0}, {1, 33, 320, 64}, {64, 64, 448, 64}, {64, 1, -1, 0}, {2, 1, 8, 8},
	} {
		if r := x.aligned(y.align, y.size); y.at < 0 {
			x.fails(r, api.ErrNoMem)
		} else {
			x.gives(r, y.at, y.n)
		}
	}
}

// TestCalloc: P15.2, as Malloc of the product, 0 being put into each of these bytes ahead of the Birth; no other byte is changed.
func TestCalloc(t *testing.T) {
	for _, pages := range []int{1, 2, 4} {
		for n := 1; n <= 64*pages; n++ {
			for size := 1; n*size <= 64*pages; size++ {
				if n > 40 && size > 1 && n*size%3 > 0 && n*size < 64*pages-8 {
					continue
				}
				x := in(t, pages, 2)
				x.by(n % 2)
				x.led(size % 3)
				was := x.m.Copy()
				r := x.calloc(n, size)
				x.gives(r, 0, roomOf(n*size, 1))
				for at := range x.m.Bytes() {
					if b := x.m.Byte(at); at < n*size && b != 0 || at >= n*size && b != was.Byte(at) {
						t.Fatalf("Calloc(%d, %d): byte %d is %d", n, size, at, b)
					}
				}
			}
		}
	}
}

// TestCallocLin: P15.2, the Birth is Lin, and the bytes are 0 ahead of it.
func TestCallocLin(t *testing.T) {
	x := in(t, 2, 2)
	x.malloc(20)
	for _, n := range []int{1, 4, 20, 64} {
		y := x.twin()
		y.by(1)
		y.led(5)
		r := alloc.Calloc(y.p, y.g, n, 1)
		y.bornAt(r, n, 5, y.p.seen)
		puts := 0
		for i, a := range y.p.seen {
			if a.Kind == api.Put {
				puts++
				if a.A != 0 || a.At < r.At || a.At >= r.At+n || 5+i+1 >= r.Lin {
					t.Fatalf("Calloc of %d bytes at %d has the access %+v", n, r.At, a)
				}
			}
		}
		if puts != n {
			t.Fatalf("Calloc of %d bytes puts %d", n, puts)
		}
	}
}

// TestCallocBeside: P15.2, P15.4, blocks that lie at both sides keep their bytes.
func TestCallocBeside(t *testing.T) {
	for n := 1; n <= 32; n++ {
		x := in(t, 3, 1)
		at := 0
		for range 3 { // the second one of three is freed, and had again
			at = x.malloc(n).At
		}
		mid := at / 2
		if n > 16 { // of two blocks a page
			mid = roomOf(n, 1)
		}
		x.freed(x.free(mid), n)
		was := x.m.Copy()
		x.gives(x.calloc(1, n), mid, roomOf(n, 1))
		for at := range x.m.Bytes() {
			if in := at >= mid && at < mid+n; in && x.m.Byte(at) != 0 || !in && x.m.Byte(at) != was.Byte(at) {
				t.Fatalf("Calloc of %d bytes at %d: byte %d is %d", n, mid, at, x.m.Byte(at))
			}
		}
	}
}

// TestSizeErrors: P15.1, P15.2, ErrSize of a size that is none, ErrAlign of an alignment that is none, behind that; found without an access, told, and nothing is changed.
func TestSizeErrors(t *testing.T) {
	for _, pages := range []int{1, 2, 256} {
		x := in(t, pages, 2)
		x.malloc(20)
		g := x.g
		for i, size := range append(wild(), 0, 64*pages+1, 64*pages+8) {
			x.by(i % 2)
			x.led(i % 7)
			x.refuses("Malloc", api.ErrSize, func() api.Result { return alloc.Malloc(x.p, g, size) })
			for _, align := range []int{1, 8, 64, 1 << 62, 0, 3, -8, math.MinInt} {
				x.refuses("Aligned", api.ErrSize, func() api.Result { return alloc.Aligned(x.p, g, align, size) })
			}
			x.refuses("Calloc", api.ErrSize, func() api.Result { return alloc.Calloc(x.p, g, size, 1) })
			x.refuses("Calloc", api.ErrSize, func() api.Result { return alloc.Calloc(x.p, g, 1, size) })
		}
		for i, align := range noPowers() {
			x.by(i % 2)
			x.led(i % 7)
			for _, size := range []int{1, 8, 64, 64 * pages} {
				x.refuses("Aligned", api.ErrAlign, func() api.Result { return alloc.Aligned(x.p, g, align, size) })
			}
		}
	}
}

// products are numbers whose product is none that fits: one of both is below 0, or it is 0, or above so many; also where it is beyond an int.
func products(most int) [][2]int {
	l := [][2]int{
		{0, 0}, {0, 1}, {0, 64}, {-1, 0}, {0, math.MinInt}, {0, math.MaxInt}, {-1, -1}, {-1, -8}, {-8, -8}, {-1, 8}, {-4, 4},
		{1, most + 1}, {2, most/2 + 1}, {3, most/3 + 1}, {most, 2}, {most, most}, {most/8 + 1, 8},
		{1 << 62, 4}, {1 << 61, 8}, {1 << 62, 2}, {1 << 32, 1 << 32}, {1 << 31, 1 << 33}, {1<<32 + 1, 1 << 32}, {1<<63 - 1, 2}, {3, 1<<64/3 + 1 - 1<<63}, {1 << 60, 16}, {1<<60 + 1, 16}, {5, 0x3333333333333334}, {7, 0x2492492492492493},
		{math.MaxInt, math.MaxInt}, {math.MinInt, math.MinInt}, {math.MinInt, -1}, {math.MinInt, 1}, {math.MinInt, 2}, {math.MaxInt, 1}, {math.MaxInt, -1}, {math.MinInt + 8, -1}, {-1 << 62, -4},
	}
	for bit := 1; bit < 63; bit++ { // what wraps round to a size that would be good
		l = append(l, [2]int{1<<bit + 1, 1 << (63 - bit) * 2}, [2]int{1 << bit, 1<<(63-bit)*2 + 1}, [2]int{1 << bit, math.MinInt>>(bit-1) + 1})
	}
	return l
}

// TestCallocErrors: P15.2, ErrSize, if one of both is below 0, or their product is 0, or above the arena, which may be beyond an int.
func TestCallocErrors(t *testing.T) {
	for _, pages := range []int{1, 3, 256} {
		x := in(t, pages, 2)
		x.malloc(20)
		for i, y := range products(64 * pages) {
			if n, size := y[0], y[1]; n > 0 && size > 0 && n <= 64*pages/size {
				continue // bits that were cut off left a good one
			}
			x.by(i % 2)
			x.led(i % 7)
			for _, z := range [][2]int{y, {y[1], y[0]}} {
				x.refuses("Calloc", api.ErrSize, func() api.Result { return alloc.Calloc(x.p, x.g, z[0], z[1]) })
			}
		}
	}
}

// TestNoRoom: P15.2, P15.4, ErrNoMem, and ErrBusy, of each call that has a block: Lin is the last access that was done, it is told, no block is live that was not, and those that are stay as they are.
func TestNoRoom(t *testing.T) {
	tries := func(x *lab, e api.Errno) {
		t.Helper()
		states := x.g.State(0)
		for i, do := range []func() api.Result{
			func() api.Result { return x.malloc(16) },
			func() api.Result { return x.malloc(65) },
			func() api.Result { return x.aligned(32, 8) },
			func() api.Result { return x.aligned(64, 8) },
			func() api.Result { return x.calloc(3, 4) },
			func() api.Result { return x.calloc(7, 11) },
		} {
			x.by(0)
			x.led(i)
			was := x.m.Copy()
			r := do()
			x.fails(r, e)
			if r.Lin != x.p.Steps() || r.Lin <= i {
				t.Fatalf("Lin is %d, of %d accesses", r.Lin, x.p.Steps())
			}
			for grain := range 8 * x.g.Pages() {
				if x.m.Word(states+grain) != was.Word(states+grain) {
					t.Fatalf("the state of grain %d is another one", grain)
				}
			}
			for at := range x.m.Bytes() {
				if x.m.Byte(at) != was.Byte(at) {
					t.Fatalf("byte %d is another one", at)
				}
			}
		}
	}
	x := in(t, 2, 2)
	x.malloc(1)
	x.heldBy(1)
	tries(x, api.ErrBusy)
	x.gives(x.malloc(8), 8, 8) // this needs no lock
	x.heldBy(-1)
	x.gives(x.malloc(33), 64, 64)
	tries(x, api.ErrNoMem)
	x.gives(x.malloc(8), 16, 8)
}
