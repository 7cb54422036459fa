package alloc_test

import (
	"cmp"
	"math"
	"slices"
	"testing"

	"quillet/alloc"
	"quillet/api"
	"quillet/central"
	"quillet/geom"
	"quillet/mem"
	"quillet/pool"
	"quillet/port"
	"quillet/runs"
	"quillet/state"
)

// The tests name the promises of shared/doc/15-alloc.md that they hold the package to. This file has what they share, and the chapter's examples; the calls are in place_test.go, births_test.go and free_test.go, calls one behind the other in alone_test.go, many threads in crew_test.go and rows_test.go.

// Sizes of blocks and their alignments by their classes, by chapter 6.
var classSizes, classAligns = [4]int{8, 16, 24, 32}, [4]int{8, 16, 8, 32}

// classOf is the class that a size fits at an alignment; -1, if there is none.
func classOf(size, align int) int {
	for class := range 4 {
		if classSizes[class] >= size && classAligns[class] >= align {
			return class
		}
	}
	return -1
}

// pagesOf is how many pages a size needs.
func pagesOf(size int) int {
	k := 1
	for 64*k < size {
		k++
	}
	return k
}

// roomOf is how many bytes a block has that is had for a size at an alignment.
func roomOf(size, align int) int {
	if class := classOf(size, align); class >= 0 {
		return classSizes[class]
	}
	return 64 * pagesOf(size)
}

// arena is the geometry of an arena that there can be.
func arena(t *testing.T, pages, threads int) geom.Geom {
	t.Helper()
	g, ok := geom.New(pages, threads)
	if !ok {
		t.Fatalf("geom.New(%d, %d): false", pages, threads)
	}
	return g
}

// store lays a word of a memory; put a byte.
func store(m *mem.Memory, at int, w uint64) { m.Do(api.Access{Kind: api.Store, At: at, A: w}) }
func put(m *mem.Memory, at int, b byte)     { m.Do(api.Access{Kind: api.Put, At: at, A: uint64(b)}) }

// zeros is a memory of an arena's words and bytes, all of which are 0.
func zeros(t *testing.T, g geom.Geom) *mem.Memory {
	t.Helper()
	m, e := mem.New(g.Words(), g.Pages()*64)
	if e != api.OK {
		t.Fatalf("mem.New: %d", e)
	}
	return m
}

// fresh is a memory in which all nodes and all pages are free. None of its bytes is 0, so that it is seen which ones are made so.
func fresh(t *testing.T, g geom.Geom) *mem.Memory {
	t.Helper()
	m := zeros(t, g)
	p := port.New(m, 0)
	pool.Init(p, g)
	runs.Init(p, g)
	for at := range m.Bytes() {
		put(m, at, byte(at%251)+1)
	}
	return m
}

// chance is a row of numbers by a short rule.
type chance uint64

func (c *chance) below(n int) int {
	*c = *c*6364136223846793005 + 1442695040888963407
	return int(uint64(*c) >> 33 % uint64(n))
}

// telling is what was told, and behind how many accesses.
type telling struct {
	r     api.Result
	steps int
}

// watch is a port that writes down its accesses, and what it is told.
type watch struct {
	*port.Direct
	seen []api.Access
	told []telling
}

func (w *watch) note(kind uint8, at int, a, b uint64) {
	w.seen = append(w.seen, api.Access{Kind: kind, At: at, A: a, B: b})
}

func (w *watch) Load(at int) uint64 {
	w.note(api.Load, at, 0, 0)
	return w.Direct.Load(at)
}

func (w *watch) Store(at int, v uint64) {
	w.note(api.Store, at, v, 0)
	w.Direct.Store(at, v)
}

func (w *watch) CAS(at int, old, new uint64) bool {
	w.note(api.CAS, at, old, new)
	return w.Direct.CAS(at, old, new)
}

func (w *watch) Add(at int, n uint64) uint64 {
	w.note(api.Add, at, n, 0)
	return w.Direct.Add(at, n)
}

func (w *watch) Get(at int) byte {
	w.note(api.Get, at, 0, 0)
	return w.Direct.Get(at)
}

func (w *watch) Put(at int, b byte) {
	w.note(api.Put, at, uint64(b), 0)
	w.Direct.Put(at, b)
}

func (w *watch) Tell(r api.Result) {
	w.told = append(w.told, telling{r, w.Steps()})
	w.Direct.Tell(r)
}

// accesses are those that were done; of puts that stand side by side the row is left open.
func (w *watch) accesses() []api.Access {
	l := slices.Clone(w.seen)
	for i := 0; i < len(l); {
		n := 1
		for i+n < len(l) && l[i].Kind == api.Put && l[i+n].Kind == api.Put {
			n++
		}
		slices.SortFunc(l[i:i+n], func(a, b api.Access) int { return cmp.Compare(a.At, b.At) })
		i += n
	}
	return l
}

// lab is a memory in which threads do calls one behind the other. Each is held to a twin, to which the layers below do what the chapter says that the call does.
type lab struct {
	t *testing.T
	g geom.Geom
	m *mem.Memory
	p *watch
}

// in is a lab of an arena as new, in which thread 0 goes on first.
func in(t *testing.T, pages, threads int) *lab {
	t.Helper()
	g := arena(t, pages, threads)
	x := &lab{t: t, g: g, m: fresh(t, g)}
	x.by(0)
	return x
}

// by hands the lab over to another thread, of whose call nothing is done so far.
func (x *lab) by(self int) { x.p = &watch{Direct: port.New(x.m, self)} }

// led has the thread's call do accesses ahead of what is asked of it.
func (x *lab) led(n int) {
	for range n {
		x.p.Direct.Load(0)
	}
}

// twin is another lab that has the same memory, and goes on by the same thread, whose call has done as many accesses.
func (x *lab) twin() *lab {
	y := &lab{t: x.t, g: x.g, m: x.m.Copy()}
	y.by(x.p.Self())
	y.led(x.p.Steps())
	return y
}

// heldBy lays the lock as a thread's; by -1 it is free.
func (x *lab) heldBy(thread int) { store(x.m, x.g.Lock(), uint64(thread+1)) }

// places has, by central, the block that a size and an alignment ask for.
func (y *lab) places(size, align int) (grain int, e api.Errno) {
	if class := classOf(size, align); class >= 0 {
		return central.Obtain(y.p, y.g, class)
	}
	return central.Pages(y.p, y.g, pagesOf(size), max(1, align/64))
}

// bears does what a call does that has a block: what that answers, and behind how many accesses it is told.
func (y *lab) bears(size, align int, clean bool) (api.Result, int) {
	grain, e := y.places(size, align)
	if e != api.OK {
		return api.Result{E: e, Lin: y.p.Steps()}, y.p.Steps()
	}
	for i := range size {
		if clean {
			y.p.Put(8*grain+i, 0)
		}
	}
	state.Birth(y.p, y.g, grain, size)
	return api.Result{At: 8 * grain, N: roomOf(size, align), Lin: y.p.Steps()}, y.p.Steps()
}

// ends does what Free does, likewise, of an address that is one. It leaves At out.
func (y *lab) ends(at int) (api.Result, int) {
	seen := state.Death(y.p, y.g, at/8)
	told := y.p.Steps()
	if !seen.Live {
		return api.Result{E: api.ErrInvalid, Lin: seen.Lin}, told
	}
	central.Release(y.p, y.g, at/8)
	return api.Result{N: seen.S.Size, Lin: seen.Lin}, told
}

// alike holds a call to having done the accesses that were done to the twin, and nothing else.
func (x *lab) alike(what string, y *lab) {
	x.t.Helper()
	if got, want := x.p.accesses(), y.p.accesses(); !slices.Equal(got, want) {
		x.t.Fatalf("%s: the accesses %v, want %v", what, got, want)
	}
	if !mem.Same(x.m, y.m) {
		x.t.Fatalf("%s: something else is changed", what)
	}
	x.p.seen = nil
}

// answers holds a call to what it is to answer, and to having told that once, behind so many accesses.
func (x *lab) answers(what string, r, want api.Result, steps int) {
	x.t.Helper()
	if r != want {
		x.t.Fatalf("%s = %+v, want %+v", what, r, want)
	}
	if len(x.p.told) != 1 || x.p.told[0] != (telling{r, steps}) {
		x.t.Fatalf("%s tells %+v, want %+v behind %d accesses", what, x.p.told, r, steps)
	}
	x.p.told = nil
}

// The calls, each held to its twin.
func (x *lab) malloc(size int) api.Result {
	x.t.Helper()
	y := x.twin()
	want, steps := y.bears(size, 1, false)
	r := alloc.Malloc(x.p, x.g, size)
	x.answers("Malloc", r, want, steps)
	x.alike("Malloc", y)
	return r
}

func (x *lab) aligned(align, size int) api.Result {
	x.t.Helper()
	y := x.twin()
	want, steps := y.bears(size, align, false)
	r := alloc.Aligned(x.p, x.g, align, size)
	x.answers("Aligned", r, want, steps)
	x.alike("Aligned", y)
	return r
}

func (x *lab) calloc(n, size int) api.Result {
	x.t.Helper()
	y := x.twin()
	want, steps := y.bears(n*size, 1, true)
	r := alloc.Calloc(x.p, x.g, n, size)
	x.answers("Calloc", r, want, steps)
	x.alike("Calloc", y)
	return r
}

func (x *lab) free(at int) api.Result {
	x.t.Helper()
	y := x.twin()
	want, steps := y.ends(at)
	r := alloc.Free(x.p, x.g, at)
	if r.E == api.OK {
		want.At = r.At // TestFreeAt alone holds it to what it is to be
	}
	x.answers("Free", r, want, steps)
	x.alike("Free", y)
	return r
}

// refuses holds a call to an error that is found without an access.
func (x *lab) refuses(what string, e api.Errno, do func() api.Result) {
	x.t.Helper()
	y := x.twin()
	x.answers(what, do(), api.Result{E: e, Lin: y.p.Steps()}, y.p.Steps())
	x.alike(what, y)
}

// gives holds an answer to a block; fails to an error.
func (x *lab) gives(r api.Result, at, n int) {
	x.t.Helper()
	if r.E != api.OK || r.At != at || r.N != n {
		x.t.Fatalf("it answers %+v, want At %d, N %d", r, at, n)
	}
}

func (x *lab) fails(r api.Result, e api.Errno) {
	x.t.Helper()
	if r.E != e || r.At != 0 || r.N != 0 {
		x.t.Fatalf("it answers %+v, want the error %d", r, e)
	}
}

// freed holds an answer of Free to the size that was asked for the block.
func (x *lab) freed(r api.Result, size int) {
	x.t.Helper()
	if r.E != api.OK || r.N != size {
		x.t.Fatalf("it answers %+v, want N %d", r, size)
	}
}

// wild are numbers that are no sizes, no addresses, and no alignments.
func wild() []int {
	l := []int{-1, -2, -3, -7, -8, -16, -64, -65, -256, math.MinInt, math.MinInt + 1, math.MinInt + 8, math.MinInt32, math.MaxInt, math.MaxInt - 1, math.MaxInt - 7, math.MaxInt32}
	for bit := 15; bit < 63; bit++ { // what is as a number that fits in its lowest bits alone
		for low := 1; low < 18; low += 5 {
			l = append(l, 1<<bit+low, -1<<bit+low)
		}
	}
	return l
}

// TestExamples: P15.1 to P15.3, the chapter's examples.
func TestExamples(t *testing.T) {
	x := in(t, 2, 1)
	p, g := port.New(x.m, 0), x.g
	x.gives(alloc.Malloc(p, g, 5), 0, 8)
	x.gives(alloc.Malloc(p, g, 8), 8, 8)
	x.freed(alloc.Free(p, g, 0), 5)
	x.gives(alloc.Malloc(p, g, 1), 0, 8)

	x.fails(alloc.Malloc(p, g, 0), api.ErrSize)
	x.fails(alloc.Malloc(p, g, 129), api.ErrSize)
	x.fails(alloc.Aligned(p, g, 3, 8), api.ErrAlign)
	x.fails(alloc.Free(p, g, 4), api.ErrInvalid)
	x.fails(alloc.Free(p, g, 64), api.ErrInvalid)

	x = in(t, 2, 1)
	p = port.New(x.m, 0)
	x.gives(alloc.Aligned(p, g, 32, 8), 0, 32)
	x.gives(alloc.Calloc(p, g, 3, 4), 64, 16)
	x.fails(alloc.Calloc(p, g, 1<<62, 4), api.ErrSize)
}

// TestExamplesOfTheWhole: the document's examples 1 to 3, 9 and 10, of the calls of this package.
func TestExamplesOfTheWhole(t *testing.T) {
	x := in(t, 4, 2)
	p, q, g := port.New(x.m, 0), port.New(x.m, 1), x.g
	x.gives(alloc.Malloc(p, g, 20), 0, 24)
	x.gives(alloc.Malloc(p, g, 33), 64, 64)
	was := x.m.Copy()
	for _, at := range []int{8, 16, 24, 32, 72, 120, 128, 248} {
		x.fails(alloc.Free(q, g, at), api.ErrInvalid)
	}
	if !mem.Same(x.m, was) {
		t.Error("Free of what is not live changes something")
	}
	x.freed(alloc.Free(p, g, 0), 20)
	x.freed(alloc.Free(q, g, 64), 33)
	x.fails(alloc.Free(q, g, 0), api.ErrInvalid)
	x.fails(alloc.Free(p, g, 64), api.ErrInvalid)
	x.gives(alloc.Malloc(q, g, 256), 0, 256)
	x.fails(alloc.Malloc(p, g, 1), api.ErrNoMem)
	x.freed(alloc.Free(p, g, 0), 256)
	x.gives(alloc.Malloc(p, g, 256), 0, 256)
}
