package central_test

import (
	"math"
	"slices"
	"testing"

	"quillet/api"
	"quillet/bag"
	"quillet/cache"
	"quillet/central"
	"quillet/geom"
	"quillet/mem"
	"quillet/pool"
	"quillet/port"
	"quillet/runs"
	"quillet/slab"
)

// The tests name the promises of shared/doc/13-central.md that they hold the package to. This file has what they share, and the chapter's examples.

// The kinds of pages, by chapter 1.
const (
	body  = 0
	free  = 1
	tail  = 2
	slabs = 3
	used  = 4
	later = 5 // deferred
)

// Sizes of blocks by their classes, by chapter 6.
var sizes = [4]int{8, 16, 24, 32}

// begins has of each class the grains of a page at which its blocks begin, by chapter 6.
func begins(class int) []int {
	return [][]int{{0, 1, 2, 3, 4, 5, 6, 7}, {0, 2, 4, 6}, {0, 3}, {0, 4}}[class]
}

// blockAt is the number of a class's block that begins at a grain of a page; -1, if none does.
func blockAt(class, grain int) int { return slices.Index(begins(class), grain%8) }

// Words of pages and of bits, told by hand as chapter 1 says. Those of bits that have no class are ones of class -1.
func pageWord(kind, n, class, owner int) uint64 {
	return uint64(kind) | uint64(n)<<3 | uint64(class)<<13 | uint64(owner)<<16
}
func bitsWord(home uint64, class int, ver uint32) uint64 {
	return home | uint64(class+1)<<8 | uint64(ver)<<32
}

// kindOf and lenOf are what a page's word tells, classOf and homeOf what a bits' word does; class -1 is none.
func kindOf(w uint64) int    { return int(w & 7) }
func lenOf(w uint64) int     { return int(w >> 3 & 1023) }
func classOf(w uint64) int   { return int(w>>8&7) - 1 }
func homeOf(w uint64) uint64 { return w & 255 }

// arena is the geometry of an arena that there can be.
func arena(t *testing.T, pages, threads int) geom.Geom {
	t.Helper()
	g, ok := geom.New(pages, threads)
	if !ok {
		t.Fatalf("geom.New(%d, %d): false", pages, threads)
	}
	return g
}

// store lays a word of a memory.
func store(m *mem.Memory, at int, w uint64) {
	m.Do(api.Access{Kind: api.Store, At: at, A: w})
}

// zeros is a memory of an arena's words and bytes, all of which are 0.
func zeros(t *testing.T, g geom.Geom) *mem.Memory {
	t.Helper()
	m, e := mem.New(g.Words(), g.Pages()*api.Page)
	if e != api.OK {
		t.Fatalf("mem.New: %d", e)
	}
	return m
}

// fresh is a memory in which all nodes and all pages are free.
func fresh(t *testing.T, g geom.Geom) *mem.Memory {
	t.Helper()
	m := zeros(t, g)
	p := port.New(m, 0)
	pool.Init(p, g)
	runs.Init(p, g)
	return m
}

// chance is a row of numbers by a short rule.
type chance uint64

func (c *chance) below(n int) int {
	*c = *c*6364136223846793005 + 1442695040888963407
	return int(uint64(*c) >> 33 % uint64(n))
}

// wild are numbers that are none's.
func wild() []int {
	l := []int{-1, -2, -3, -4, -7, -8, -9, -64, -256, math.MinInt, math.MinInt + 1, math.MinInt32, math.MaxInt, math.MaxInt - 1, math.MaxInt - 7, math.MaxInt32}
	for bit := 8; bit < 63; bit++ { // what is as a number that fits in its lowest bits alone
		for low := range 5 {
			l = append(l, 1<<bit+low, -1<<bit+low-5)
		}
	}
	return l
}

// watch is a port that writes down its accesses, and what they were answered. Ahead of each of them it does what meanwhile says, which is told how many there were.
type watch struct {
	*port.Direct
	m         *mem.Memory
	book      *ledger
	seen      []api.Access
	told      int
	meanwhile func(n int, a api.Access)
}

func (w *watch) do(a api.Access) uint64 {
	if w.meanwhile != nil {
		w.meanwhile(len(w.seen), a)
	}
	w.seen = append(w.seen, a)
	w.book.note(w.m, a)
	v, _ := w.m.Do(a)
	return v
}

func (w *watch) Load(at int) uint64     { return w.do(api.Access{Kind: api.Load, At: at}) }
func (w *watch) Store(at int, v uint64) { w.do(api.Access{Kind: api.Store, At: at, A: v}) }
func (w *watch) CAS(at int, old, new uint64) bool {
	return w.do(api.Access{Kind: api.CAS, At: at, A: old, B: new}) != 0
}
func (w *watch) Add(at int, n uint64) uint64 {
	return w.do(api.Access{Kind: api.Add, At: at, A: n})
}
func (w *watch) Get(at int) byte    { return byte(w.do(api.Access{Kind: api.Get, At: at})) }
func (w *watch) Put(at int, b byte) { w.do(api.Access{Kind: api.Put, At: at, A: uint64(b)}) }
func (w *watch) Tell(api.Result)    { w.told++ }

// lab is a memory in which threads do calls one behind the other, each of which is held to what it may do to the epoch.
type lab struct {
	t *testing.T
	g geom.Geom
	m *mem.Memory
	p *watch
}

// in is a lab of an arena as new, in which thread 0 goes on first.
func in(t *testing.T, pages, threads int) *lab {
	t.Helper()
	g := arena(t, pages, threads)
	x := &lab{t: t, g: g, m: fresh(t, g)}
	x.by(0)
	return x
}

// copy is another lab that has the same memory, and goes on by the same thread.
func (x *lab) copy() *lab {
	y := &lab{t: x.t, g: x.g, m: x.m.Copy()}
	y.by(x.p.Self())
	return y
}

// by hands the lab over to another thread.
func (x *lab) by(self int) {
	x.p = &watch{Direct: port.New(x.m, self), m: x.m, book: &ledger{g: x.g, self: self}}
}

// port is a port of a thread that is not watched.
func (x *lab) port(self int) *port.Direct { return port.New(x.m, self) }

// epoch is how many moves there were.
func (x *lab) epoch() uint64 { return x.m.Word(x.g.Epoch()) }

// did holds a call to having added this many moves to the epoch, as the chapter says, to having dropped the lock, and to having told nothing.
func (x *lab) did(what string, moves uint64) {
	x.t.Helper()
	book := x.p.book
	book.end()
	if book.fault != "" {
		x.t.Fatalf("%s: %s", what, book.fault)
	}
	if book.moves != moves {
		x.t.Fatalf("%s: %d moves are done, want %d", what, book.moves, moves)
	}
	if w := x.m.Word(x.g.Lock()); w == uint64(x.p.Self())+1 {
		x.t.Fatalf("%s: the lock is kept", what)
	}
	if x.p.told != 0 {
		x.t.Fatalf("%s tells what only a call tells", what)
	}
	self := x.p.Self()
	x.by(self)
}

// The calls, each held to an answer, and to so many moves.
func (x *lab) obtain(class, grain int, e api.Errno, moves uint64) {
	x.t.Helper()
	if got, err := central.Obtain(x.p, x.g, class); got != grain || err != e {
		x.t.Fatalf("Obtain(%d) = %d, %d, want %d, %d", class, got, err, grain, e)
	}
	x.did("Obtain", moves)
}

func (x *lab) pages(k, a, grain int, e api.Errno, moves uint64) {
	x.t.Helper()
	if got, err := central.Pages(x.p, x.g, k, a); got != grain || err != e {
		x.t.Fatalf("Pages(%d, %d) = %d, %d, want %d, %d", k, a, got, err, grain, e)
	}
	x.did("Pages", moves)
}

func (x *lab) release(grain int, moves uint64) {
	x.t.Helper()
	central.Release(x.p, x.g, grain)
	x.did("Release", moves)
}

func (x *lab) sweep(moves uint64, got bool) {
	x.t.Helper()
	if n, ok := central.Sweep(x.p, x.g); n != moves || ok != got {
		x.t.Fatalf("Sweep = %d, %v, want %d, %v", n, ok, moves, got)
	}
	x.did("Sweep", moves)
}

func (x *lab) flush(moves uint64) {
	x.t.Helper()
	central.Flush(x.p, x.g)
	x.did("Flush", moves)
}

func (x *lab) trim(e api.Errno, moves uint64) {
	x.t.Helper()
	if err := central.Trim(x.p, x.g); err != e {
		x.t.Fatalf("Trim = %d, want %d", err, e)
	}
	x.did("Trim", moves)
}

// slabOf makes the first free page a slab of a thread, all of whose blocks are held, and is the page.
func (x *lab) slabOf(class, owner int) int {
	x.t.Helper()
	p := x.port(owner)
	page, ok := runs.Alloc(p, x.g, 1, 1)
	if !ok || slab.Make(p, x.g, page, class) != 8*page {
		x.t.Fatal("there is no page to be made a slab")
	}
	for ok {
		_, ok = slab.Take(p, x.g, page, class)
	}
	return page
}

// runOf makes the first free pages a run that is held, and is its first page.
func (x *lab) runOf(k int) int {
	x.t.Helper()
	page, ok := runs.Alloc(x.port(0), x.g, k, 1)
	if !ok {
		x.t.Fatal("there are no pages to be a run")
	}
	return page
}

// Held blocks are put somewhere, without being counted.
func (x *lab) home(grains ...int) {
	x.t.Helper()
	for _, grain := range grains {
		if !slab.Home(x.port(0), x.g, grain) {
			x.t.Fatalf("block %d is not sent home", grain)
		}
	}
}

func (x *lab) push(grains ...int) {
	x.t.Helper()
	for _, grain := range grains {
		if !slab.Push(x.port(0), x.g, grain) {
			x.t.Fatalf("block %d is not pushed", grain)
		}
	}
}

func (x *lab) cached(thread, class int, grains ...int) {
	x.t.Helper()
	for _, grain := range grains {
		if !cache.Put(x.port(thread), x.g, class, uint64(grain)+1) {
			x.t.Fatalf("block %d is not put into the cache", grain)
		}
	}
}

func (x *lab) bagged(thread, class int, grains ...int) {
	x.t.Helper()
	for _, grain := range grains {
		if !bag.Add(x.port(thread), x.g, class, uint64(grain)+1) {
			x.t.Fatalf("block %d is not put into the bag", grain)
		}
	}
}

func (x *lab) deferred(page, k int) {
	x.t.Helper()
	if !runs.Mark(x.port(0), x.g, page, k) {
		x.t.Fatalf("run %d of %d pages is not deferred", page, k)
	}
}

// heldBy lays the lock as a thread's; by -1 it is free.
func (x *lab) heldBy(thread int) { store(x.m, x.g.Lock(), uint64(thread+1)) }

// bits holds a page's bits to a class, and to these of its blocks being home.
func (x *lab) bits(page, class int, grains ...int) {
	x.t.Helper()
	want := uint64(0)
	for _, grain := range grains {
		want |= 1 << blockAt(class, grain)
	}
	w := x.m.Word(x.g.Bits(page))
	if classOf(w) != class || homeOf(w) != want {
		x.t.Fatalf("page %d: class %d, home are %b, want %d, %b", page, classOf(w), homeOf(w), class, want)
	}
}

// word holds a page's word to what it is to tell.
func (x *lab) word(page, kind, n, class, owner int) {
	x.t.Helper()
	if w := x.m.Word(x.g.Page(page)); w != pageWord(kind, n, class, owner) {
		x.t.Fatalf("page %d is %#x, want %#x", page, w, pageWord(kind, n, class, owner))
	}
}

// stack holds a page's remote stack to these blocks, topmost first.
func (x *lab) stack(page int, grains ...int) {
	x.t.Helper()
	if l := stackOf(x.m, x.g, page); !slices.Equal(l, grains) {
		x.t.Fatalf("in the remote stack of page %d are %v, want %v", page, l, grains)
	}
}

// caches holds a thread's cache of a class to what its slots have; -1 is none.
func (x *lab) caches(thread, class, first, second int) {
	x.t.Helper()
	for slot, grain := range []int{first, second} {
		if w := x.m.Word(x.g.Cache(thread, class, slot)); w != uint64(grain+1) {
			x.t.Fatalf("in slot %d is %d, want %d", slot, w, grain+1)
		}
	}
}

// bags holds a thread's bag of a class to these blocks, in the row of its places.
func (x *lab) bags(thread, class int, grains ...int) {
	x.t.Helper()
	if l := bagOf(x.m, x.g, thread, class); !slices.Equal(l, grains) {
		x.t.Fatalf("in the bag of thread %d for class %d are %v, want %v", thread, class, l, grains)
	}
}

// stackOf are the blocks of a page's remote stack, topmost first; of one that leads on and on those that it has first.
func stackOf(m *mem.Memory, g geom.Geom, page int) []int {
	var l []int
	for w := m.Word(g.Remote(page)); w != 0 && len(l) <= 8; {
		l = append(l, int(w)-1)
		w = m.Word(g.Link(int(w) - 1))
	}
	return l
}

// nodesOf is how many nodes a thread's list for a class has.
func nodesOf(m *mem.Memory, g geom.Geom, thread, class int) int {
	n := 0
	for node := m.Word(g.Head(thread, class)) & 0xffffff; node != 0; node = m.Word(g.Next(int(node))) & 0xffffff {
		n++
	}
	return n
}

// bagOf are the blocks of a thread's list for a class.
func bagOf(m *mem.Memory, g geom.Geom, thread, class int) []int {
	var l []int
	for node := int(m.Word(g.Head(thread, class)) & 0xffffff); node != 0; node = int(m.Word(g.Next(node)) & 0xffffff) {
		for slot := range 8 {
			if w := m.Word(g.Item(node, slot)); w != 0 {
				l = append(l, int(w)-1)
			}
		}
	}
	return l
}

// clean is what a memory has that it ought not to have when all has gone home, and all pages are one free run: nothing is "".
func clean(m *mem.Memory, g geom.Geom) string {
	n := g.Pages()
	for page := range n {
		want := uint64(0)
		switch page {
		case 0:
			want = pageWord(free, n, 0, 0)
		case n - 1:
			want = pageWord(tail, n, 0, 0)
		}
		switch {
		case m.Word(g.Page(page)) != want:
			return "the pages are no free run"
		case classOf(m.Word(g.Bits(page))) != -1:
			return "a page has a class"
		case m.Word(g.Remote(page)) != 0:
			return "a page has a remote stack"
		}
	}
	for b := range 9 {
		want := uint64(0)
		if n>>b == 1 {
			want = 1
		}
		if m.Word(g.Bin(b)) != want {
			return "the bins do not count one free run"
		}
	}
	for at := g.Cache(0, 0, 0); at < g.Head(0, 0); at++ {
		if m.Word(at) != 0 {
			return "a cache has a block"
		}
	}
	for at := g.Item(1, 0); at < g.Words(); at++ {
		if m.Word(at) != 0 {
			return "a node has a block"
		}
	}
	for at := g.Hazard(0, 0); at < g.Gone(0); at++ {
		if m.Word(at) != 0 {
			return "a thread protects a node"
		}
	}
	if m.Word(g.Lock()) != 0 {
		return "the lock is held"
	}
	return ""
}

// isClean holds the memory to having nothing that is not home, and one free run.
func (x *lab) isClean() {
	x.t.Helper()
	if what := clean(x.m, x.g); what != "" {
		x.t.Fatal(what)
	}
}

// TestExamples: P13.1 to P13.5, the chapter's examples.
func TestExamples(t *testing.T) {
	x := in(t, 2, 1)
	x.obtain(0, 0, api.OK, 1)
	x.obtain(0, 1, api.OK, 0)
	x.release(0, 1)
	x.obtain(0, 0, api.OK, 0)

	x.pages(1, 1, 8, api.OK, 0)
	x.pages(1, 1, 0, api.ErrNoMem, 0)

	x.release(0, 1)
	x.release(1, 1)
	x.pages(1, 1, 0, api.OK, 3)

	x.release(0, 2)
	x.release(8, 2)
	x.trim(api.OK, 0)
	x.isClean()
}
