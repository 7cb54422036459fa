package slab_test

import (
	"math"
	"slices"
	"testing"

	"quillet/api"
	"quillet/geom"
	"quillet/mem"
	"quillet/port"
	"quillet/runs"
	"quillet/slab"
	"quillet/word"
)

// The tests name the promises of shared/doc/11-slab.md that they hold the package to. Those of many threads are in rows_test.go.

// The kinds of pages, by chapter 1.
const (
	body  = 0
	free  = 1
	tail  = 2
	slabs = 3
	used  = 4
	later = 5 // deferred
)

// begins has of each class the grains of a page at which its blocks begin, by chapter 6.
func begins(class int) []int {
	return [][]int{{0, 1, 2, 3, 4, 5, 6, 7}, {0, 2, 4, 6}, {0, 3}, {0, 4}}[class]
}

// all is what Map is when all blocks of a class are home.
func all(class int) uint64 { return 1<<len(begins(class)) - 1 }

// blockAt is the number of a class's block that begins at a grain of a page; -1, if none does.
func blockAt(class, grain int) int { return slices.Index(begins(class), grain%8) }

// Words of pages and of bits, told by hand as chapter 1 says. Those of bits that have no class are ones of class -1.
func pageWord(kind, n, class, owner int) uint64 {
	return uint64(kind) | uint64(n)<<3 | uint64(class)<<13 | uint64(owner)<<16
}
func bitsWord(home uint64, class int, ver uint32) uint64 {
	return home | uint64(class+1)<<8 | uint64(ver)<<32
}

// arena is the geometry of an arena that there can be.
func arena(t *testing.T, pages, threads int) geom.Geom {
	t.Helper()
	g, ok := geom.New(pages, threads)
	if !ok {
		t.Fatalf("geom.New(%d, %d): false", pages, threads)
	}
	return g
}

// store lays a word of a memory.
func store(m *mem.Memory, at int, w uint64) {
	m.Do(api.Access{Kind: api.Store, At: at, A: w})
}

// zeros is a memory of an arena's words and bytes, all of which are 0.
func zeros(t *testing.T, g geom.Geom) *mem.Memory {
	t.Helper()
	m, e := mem.New(g.Words(), g.Pages()*api.Page)
	if e != api.OK {
		t.Fatalf("mem.New: %d", e)
	}
	return m
}

// unlike is such a memory, no two of whose words are the same. Whatever its pages' words are, they are of no kind that there is, and no bits have a class, and no page has a remote stack.
func unlike(t *testing.T, g geom.Geom) *mem.Memory {
	t.Helper()
	m := zeros(t, g)
	for at := range m.Words() {
		store(m, at, uint64(at)*0x9e3779b97f4a7c15+0x1234567)
	}
	for at := range m.Bytes() {
		m.Do(api.Access{Kind: api.Put, At: at, A: uint64(at)*7 + 1})
	}
	for page := range g.Pages() {
		store(m, g.Page(page), uint64(page)<<3|7)
		store(m, g.Bits(page), bitsWord(0, -1, uint32(page*3)))
		store(m, g.Remote(page), 0)
	}
	return m
}

// watch is a port that writes down its accesses. Ahead of each of them it does what meanwhile says, which is told how many there were.
type watch struct {
	*port.Direct
	seen      []api.Access
	told      int
	meanwhile func(n int)
}

func (w *watch) note(a api.Access) {
	if w.meanwhile != nil {
		w.meanwhile(len(w.seen))
	}
	w.seen = append(w.seen, a)
}

func (w *watch) Load(at int) uint64 {
	w.note(api.Access{Kind: api.Load, At: at})
	return w.Direct.Load(at)
}

func (w *watch) Store(at int, v uint64) {
	w.note(api.Access{Kind: api.Store, At: at, A: v})
	w.Direct.Store(at, v)
}

func (w *watch) CAS(at int, old, new uint64) bool {
	w.note(api.Access{Kind: api.CAS, At: at, A: old, B: new})
	return w.Direct.CAS(at, old, new)
}

func (w *watch) Add(at int, n uint64) uint64 {
	w.note(api.Access{Kind: api.Add, At: at, A: n})
	return w.Direct.Add(at, n)
}

func (w *watch) Get(at int) byte {
	w.note(api.Access{Kind: api.Get, At: at})
	return w.Direct.Get(at)
}

func (w *watch) Put(at int, b byte) {
	w.note(api.Access{Kind: api.Put, At: at, A: uint64(b)})
	w.Direct.Put(at, b)
}

func (w *watch) Tell(r api.Result) {
	w.told++
	w.Direct.Tell(r)
}

// lab is a memory in which each call is held to the accesses by which it may change words.
type lab struct {
	t       *testing.T
	g       geom.Geom
	m, like *mem.Memory // the memory, and what it ought to be
	p       *watch
}

// in is a lab of a thread in a memory of unlike words.
func in(t *testing.T, g geom.Geom, self int) *lab {
	t.Helper()
	m := unlike(t, g)
	return &lab{t, g, m, m.Copy(), &watch{Direct: port.New(m, self)}}
}

// lay lays a word by hand.
func (x *lab) lay(at int, w uint64) {
	store(x.m, at, w)
	store(x.like, at, w)
}

// slabOf lays a page as a slab of a class by hand, some of whose blocks are home.
func (x *lab) slabOf(page, class int, home uint64) {
	x.lay(x.g.Page(page), pageWord(slabs, 1, class, 5))
	x.lay(x.g.Bits(page), bitsWord(home, class, 9))
}

// stack lays blocks onto a page's remote stack by hand, the first one topmost.
func (x *lab) stack(page int, grains ...int) {
	top := uint64(0)
	for _, grain := range slices.Backward(grains) {
		x.lay(x.g.Link(grain), top)
		top = uint64(grain) + 1
	}
	x.lay(x.g.Remote(page), top)
}

// stored and swapped are accesses that change a word.
func stored(at int, w uint64) api.Access { return api.Access{Kind: api.Store, At: at, A: w} }
func swapped(at int, from, to uint64) api.Access {
	return api.Access{Kind: api.CAS, At: at, A: from, B: to}
}

// did holds a call to having had these accesses, in their row, and further ones of Load alone; to the memory that they leave; and to having told nothing.
func (x *lab) did(what string, want ...api.Access) {
	x.t.Helper()
	for _, a := range want {
		x.like.Do(a)
	}
	did := slices.DeleteFunc(slices.Clone(x.p.seen), func(a api.Access) bool { return a.Kind == api.Load })
	if !slices.Equal(did, want) {
		x.t.Fatalf("%s: the accesses %v, want %v", what, did, want)
	}
	if !mem.Same(x.m, x.like) {
		x.t.Fatalf("%s: another word is touched", what)
	}
	if x.p.told != 0 {
		x.t.Fatalf("%s tells what only a call tells", what)
	}
	x.p.seen = nil
}

// The calls, each held to an answer.
func (x *lab) make(page, class, grain int) {
	x.t.Helper()
	if got := slab.Make(x.p, x.g, page, class); got != grain {
		x.t.Fatalf("Make(%d, %d) = %d, want %d", page, class, got, grain)
	}
}

func (x *lab) take(page, class, grain int) {
	x.t.Helper()
	if got, ok := slab.Take(x.p, x.g, page, class); got != grain || !ok {
		x.t.Fatalf("Take(%d, %d) = %d, %v, want %d", page, class, got, ok, grain)
	}
}

func (x *lab) takeNone(page, class int) {
	x.t.Helper()
	if got, ok := slab.Take(x.p, x.g, page, class); got != 0 || ok {
		x.t.Fatalf("Take(%d, %d) = %d, %v, want none", page, class, got, ok)
	}
}

func (x *lab) home(grain int, want bool) {
	x.t.Helper()
	if got := slab.Home(x.p, x.g, grain); got != want {
		x.t.Fatalf("Home(%d) = %v", grain, got)
	}
}

func (x *lab) push(grain int, want bool) {
	x.t.Helper()
	if got := slab.Push(x.p, x.g, grain); got != want {
		x.t.Fatalf("Push(%d) = %v", grain, got)
	}
}

func (x *lab) drain(page int, grains ...int) {
	x.t.Helper()
	if got := slab.Drain(x.p, x.g, page); !slices.Equal(got, grains) {
		x.t.Fatalf("Drain(%d) = %v, want %v", page, got, grains)
	}
}

func (x *lab) retire(page int, want bool) {
	x.t.Helper()
	if got := slab.Retire(x.p, x.g, page); got != want {
		x.t.Fatalf("Retire(%d) = %v", page, got)
	}
}

// ahead does something ahead of the access of that number, from 0 on, of the next call, once. Each change by hand is one that the memory ought to have, too.
func (x *lab) ahead(n int, do func()) {
	x.p.meanwhile = func(i int) {
		if i == n && do != nil {
			do()
			do = nil
		}
	}
}

// wild are numbers that are none's.
func wild() []int {
	l := []int{-1, -2, -3, -7, -8, -9, -16, -256, -1024, math.MinInt, math.MinInt + 1, math.MinInt32, math.MaxInt, math.MaxInt - 1, math.MaxInt - 7, math.MaxInt32}
	for bit := 11; bit < 63; bit++ { // what is as a number that fits in its lowest bits alone
		for low := range 9 {
			l = append(l, 1<<bit+low, -1<<bit+low-9)
		}
	}
	return l
}

// chance is a row of numbers by a short rule.
type chance uint64

func (c *chance) below(n int) int {
	*c = *c*6364136223846793005 + 1442695040888963407
	return int(uint64(*c) >> 33 % uint64(n))
}

// TestExamples: P11.1 to P11.5, the chapter's examples.
func TestExamples(t *testing.T) {
	g := arena(t, 2, 1)
	m := zeros(t, g)
	p := port.New(m, 0)
	runs.Init(p, g)
	runs.Alloc(p, g, 1, 1)
	if page, ok := runs.Alloc(p, g, 1, 1); page != 1 || !ok {
		t.Fatalf("there is no page 1")
	}
	if grain := slab.Make(p, g, 1, 2); grain != 8 {
		t.Errorf("Make = %d", grain)
	}
	if w := slab.Find(p, g, 8); w != (word.Page{Kind: api.Slab, Len: 1, Class: 2}) {
		t.Errorf("Find(8) = %v", w)
	}
	if grain, ok := slab.Take(p, g, 1, 2); grain != 11 || !ok {
		t.Errorf("Take = %d, %v", grain, ok)
	}
	if grain, ok := slab.Take(p, g, 1, 2); grain != 0 || ok {
		t.Errorf("Take = %d, %v", grain, ok)
	}
	if !slab.Push(p, g, 8) || !slab.Push(p, g, 11) {
		t.Error("Push")
	}
	if l := slab.Drain(p, g, 1); !slices.Equal(l, []int{11, 8}) {
		t.Errorf("Drain = %v", l)
	}
	if slab.Home(p, g, 9) {
		t.Error("Home(9)")
	}
	if grain, ok := slab.Take(p, g, 1, 1); grain != 0 || ok {
		t.Errorf("Take of class 1 = %d, %v", grain, ok)
	}
	if !slab.Home(p, g, 8) || slab.Retire(p, g, 1) || !slab.Home(p, g, 11) || !slab.Retire(p, g, 1) {
		t.Error("Home, or Retire")
	}
	if w := slab.Find(p, g, 8); w != (word.Page{Kind: api.Free, Len: 1}) {
		t.Errorf("Find(8) = %v", w)
	}
}

// TestWords: P11.1 to P11.5, the words of a page of class 1, told by hand.
func TestWords(t *testing.T) {
	g := arena(t, 2, 8)
	m := zeros(t, g)
	p := port.New(m, 5)
	is := func(what string, page, bits, remote uint64) {
		t.Helper()
		if m.Word(g.Page(1)) != page || m.Word(g.Bits(1)) != bits || m.Word(g.Remote(1)) != remote {
			t.Errorf("%s: %#x, %#x, %d", what, m.Word(g.Page(1)), m.Word(g.Bits(1)), m.Word(g.Remote(1)))
		}
	}
	runs.Init(p, g)
	runs.Alloc(p, g, 1, 2)
	runs.Alloc(p, g, 1, 1)
	is("a used run", 0xc, 0, 0)
	slab.Make(p, g, 1, 1)
	is("Make", 0x5200b, 0x10000020e, 0)
	slab.Take(p, g, 1, 1)
	is("Take", 0x5200b, 0x10000020c, 0)
	slab.Home(p, g, 8)
	is("Home", 0x5200b, 0x10000020d, 0)
	slab.Push(p, g, 10)
	is("Push", 0x5200b, 0x10000020d, 11)
	slab.Take(p, g, 1, 1)
	slab.Push(p, g, 8)
	is("Push", 0x5200b, 0x10000020c, 9)
	if m.Word(g.Link(8)) != 11 || m.Word(g.Link(10)) != 0 {
		t.Errorf("the links are %d, %d", m.Word(g.Link(8)), m.Word(g.Link(10)))
	}
	slab.Drain(p, g, 1)
	is("Drain", 0x5200b, 0x10000020c, 0)
	slab.Home(p, g, 8)
	slab.Home(p, g, 10)
	is("Home", 0x5200b, 0x10000020f, 0)
	slab.Retire(p, g, 1)
	is("Retire", 0x9, 0x200000000, 0)
	runs.Alloc(p, g, 1, 1)
	slab.Make(p, g, 1, 3)
	is("Make", 0x5600b, 0x300000402, 0)
}

// TestMake: P11.1, pages, classes and threads: the page's word, then the bits' word; the first block is told.
func TestMake(t *testing.T) {
	for _, pages := range []int{1, 2, 256} {
		g := arena(t, pages, 64)
		for _, self := range []int{0, 1, 63} {
			x := in(t, g, self)
			for _, page := range []int{0, 1, 17, 255} {
				if page >= pages {
					continue
				}
				for class := range 4 {
					for _, ver := range []uint32{0, 1, 77, math.MaxUint32 - 1, math.MaxUint32} {
						x.lay(g.Page(page), pageWord(used, 1, 0, 0))
						x.lay(g.Bits(page), bitsWord(0, -1, ver))
						x.make(page, class, 8*page)
						x.did("Make", stored(g.Page(page), pageWord(slabs, 1, class, self)), stored(g.Bits(page), bitsWord(all(class)-1, class, ver+1)))
					}
				}
			}
		}
	}
}

// TestMakeOfNone: P11.1, a page or a class that is none: -1, and no word is changed.
func TestMakeOfNone(t *testing.T) {
	g := arena(t, 3, 2)
	x := in(t, g, 1)
	for page := range 3 {
		x.lay(g.Page(page), pageWord(used, 1, 0, 0))
	}
	for _, n := range append(wild(), 3, 4, 5, 8) {
		for i := range 4 {
			x.make(n, i, -1)
			if n != 3 {
				x.make(i, n, -1)
			}
		}
		x.make(n, n, -1)
	}
	x.did("Make of none")
}

// TestTake: P11.2, each Map of each class: the lowest block, if there is one, by one CAS.
func TestTake(t *testing.T) {
	g := arena(t, 3, 2)
	x := in(t, g, 1)
	for page := range 3 {
		for class := range 4 {
			for home := range all(class) + 1 {
				x.slabOf(page, class, home)
				for left := home; left != 0; left &= left - 1 {
					block := 0
					for left>>block&1 == 0 {
						block++
					}
					x.take(page, class, 8*page+begins(class)[block])
					x.did("Take", swapped(g.Bits(page), bitsWord(left, class, 9), bitsWord(left&(left-1), class, 9)))
				}
				x.takeNone(page, class)
				x.did("Take of none")
			}
		}
	}
}

// TestTakeOfNone: P11.2, of a page with no bit, of another class, of none; of a page or a class that is none: 0, false, and no word is changed.
func TestTakeOfNone(t *testing.T) {
	g := arena(t, 6, 2)
	x := in(t, g, 0)
	for page, class := range []int{0, 1, 2, 3} {
		x.slabOf(page, class, all(class))
	}
	x.slabOf(4, 0, 0)
	x.lay(g.Bits(5), bitsWord(255, -1, 4)) // of no class, whatever its Map is
	for page, class := range []int{0, 1, 2, 3, -1, -1} {
		for other := range 4 {
			if other != class {
				x.takeNone(page, other)
			}
		}
	}
	for _, n := range append(wild(), 6, 7, 8) {
		for i := range 6 {
			x.takeNone(n, i)
			x.takeNone(i, n)
		}
		x.takeNone(n, n)
	}
	x.did("Take of none")
	for home := range uint64(256) {
		for class := range 8 { // the bits have room for such ones, too
			x.lay(g.Bits(5), bitsWord(home, class-1, 4))
			if class > 4 {
				x.takeNone(5, class-1)
			}
			x.takeNone(5, class)
			x.takeNone(5, class-2)
		}
	}
	x.did("Take of none")
}

// TestNoBlocksBit: P11.2, R1, a bit beyond the class's blocks is no block's.
func TestNoBlocksBit(t *testing.T) {
	g := arena(t, 1, 1)
	x := in(t, g, 0)
	for class := 1; class < 4; class++ {
		for beyond := all(class) + 1; beyond < 256; beyond += all(class) + 1 {
			x.slabOf(0, class, beyond)
			x.takeNone(0, class)
			x.did("Take of none")
			x.slabOf(0, class, beyond+1)
			x.take(0, class, 0)
			x.did("Take", swapped(g.Bits(0), bitsWord(beyond+1, class, 9), bitsWord(beyond, class, 9)))
		}
	}
}

// TestTakeAgain: P11.2, the CAS is not done, as the bits have changed meanwhile: again, by what they are then.
func TestTakeAgain(t *testing.T) {
	g := arena(t, 3, 2)
	for _, c := range []struct {
		what  string
		to    uint64 // what class 1's page 2 with blocks 1 and 2 home turns to
		block int    // below 0: none
		left  uint64
	}{
		{"the block is taken", bitsWord(4, 1, 9), 2, bitsWord(0, 1, 9)},
		{"the other one is taken", bitsWord(2, 1, 9), 1, bitsWord(0, 1, 9)},
		{"both are taken", bitsWord(0, 1, 9), -1, 0},
		{"the first block comes home", bitsWord(7, 1, 9), 0, bitsWord(6, 1, 9)},
		{"the last block comes home", bitsWord(14, 1, 9), 1, bitsWord(12, 1, 9)},
		{"the page is retired", bitsWord(0, -1, 10), -1, 0},
		{"the page is of another class", bitsWord(254, 0, 11), -1, 0},
		{"the page is made again", bitsWord(14, 1, 11), 1, bitsWord(12, 1, 11)},
		{"the page is as it was, but made again", bitsWord(6, 1, 11), 1, bitsWord(4, 1, 11)},
	} {
		x := in(t, g, 1)
		x.slabOf(2, 1, 6)
		x.ahead(1, func() { x.lay(g.Bits(2), c.to) })
		first := swapped(g.Bits(2), bitsWord(6, 1, 9), bitsWord(4, 1, 9))
		if c.block < 0 {
			x.takeNone(2, 1)
			x.did(c.what, first)
			continue
		}
		x.take(2, 1, 16+2*c.block)
		x.did(c.what, first, swapped(g.Bits(2), c.to, c.left))
	}
}

// TestTakeOfTurning: P11.2, the CAS is not done ever so often.
func TestTakeOfTurning(t *testing.T) {
	g := arena(t, 1, 1)
	for times := range 100 {
		x := in(t, g, 0)
		x.slabOf(0, 0, 1)
		var want []api.Access
		was := bitsWord(1, 0, 9)
		for i := range times {
			want = append(want, swapped(g.Bits(0), was, was&^(was&-was)))
			was = bitsWord(uint64(i*37%255+1), 0, uint32(i))
		}
		block := 0
		for was>>block&1 == 0 {
			block++
		}
		want = append(want, swapped(g.Bits(0), was, was&^(was&-was)))
		x.p.meanwhile = func(n int) {
			if i := n / 2; n%2 == 1 && i < times {
				x.lay(g.Bits(0), bitsWord(uint64(i*37%255+1), 0, uint32(i)))
			}
		}
		x.take(0, 0, block)
		x.did("Take", want...)
	}
}

// TestHome: P11.3, each grain, with each Map of each class: a held block's bit by one CAS; of what is no block's beginning, or is home, false.
func TestHome(t *testing.T) {
	g := arena(t, 3, 2)
	x := in(t, g, 1)
	for page := range 3 {
		for class := range 4 {
			for home := range all(class) + 1 {
				for i := range 8 {
					x.slabOf(page, class, home)
					block := blockAt(class, i)
					if block < 0 || home>>block&1 == 1 {
						x.home(8*page+i, false)
						x.did("Home of none")
						continue
					}
					x.home(8*page+i, true)
					x.did("Home", swapped(g.Bits(page), bitsWord(home, class, 9), bitsWord(home|1<<block, class, 9)))
					x.home(8*page+i, false)
					x.did("Home once more")
				}
			}
		}
	}
}

// TestHomeOfNone: P11.3, of a page without a class, of one of a number that is no class's, of a grain that is none: false, and no word is changed.
func TestHomeOfNone(t *testing.T) {
	g := arena(t, 3, 2)
	x := in(t, g, 0)
	for page := range 3 {
		x.lay(g.Page(page), pageWord(slabs, 1, page, 0)) // the bits say it, not the page's word
	}
	for home := range uint64(256) {
		for _, class := range []int{-1, 4, 5, 6} {
			x.lay(g.Bits(0), bitsWord(home, class, 3))
			for grain := range 24 {
				x.home(grain, false)
			}
		}
	}
	for page := range 3 {
		x.slabOf(page, page, 0)
	}
	for _, n := range append(wild(), 24, 25, 31, 32, 40, 2048) {
		x.home(n, false)
	}
	x.did("Home of none")
}

// TestHomeAgain: P11.3, the CAS is not done, as the bits have changed meanwhile: again, by what they are then.
func TestHomeAgain(t *testing.T) {
	g := arena(t, 3, 2)
	for _, c := range []struct {
		what string
		to   uint64 // what class 1's page 2 with block 1 home turns to
		left uint64 // 0: it is not sent home
	}{
		{"another one comes home", bitsWord(3, 1, 9), bitsWord(7, 1, 9)},
		{"another one is taken", bitsWord(0, 1, 9), bitsWord(4, 1, 9)},
		{"two others come home", bitsWord(11, 1, 9), bitsWord(15, 1, 9)},
		{"the block itself comes home", bitsWord(6, 1, 9), 0},
		{"the page is retired", bitsWord(0, -1, 10), 0},
		{"the page is of a class of which no block begins there", bitsWord(2, 2, 11), 0},
		{"the page is of another class", bitsWord(1, 3, 11), bitsWord(3, 3, 11)},
		{"the page is of another class, and the block is home", bitsWord(2, 3, 11), 0},
		{"the page is as it was, but made again", bitsWord(2, 1, 11), bitsWord(6, 1, 11)},
	} {
		x := in(t, g, 1)
		x.slabOf(2, 1, 2)
		x.ahead(1, func() { x.lay(g.Bits(2), c.to) })
		first := swapped(g.Bits(2), bitsWord(2, 1, 9), bitsWord(6, 1, 9))
		if c.left == 0 {
			x.home(20, false)
			x.did(c.what, first)
			continue
		}
		x.home(20, true)
		x.did(c.what, first, swapped(g.Bits(2), c.to, c.left))
	}
	for times := range 100 {
		x := in(t, g, 1)
		x.slabOf(1, 0, 0)
		want := []api.Access{swapped(g.Bits(1), bitsWord(0, 0, 9), bitsWord(16, 0, 9))}
		for i := range times {
			to := uint64(i*37%255+1) &^ 16
			want = append(want, swapped(g.Bits(1), bitsWord(to, 0, uint32(i)), bitsWord(to|16, 0, uint32(i))))
		}
		x.p.meanwhile = func(n int) {
			if i := n / 2; n%2 == 1 && i < times {
				x.lay(g.Bits(1), bitsWord(uint64(i*37%255+1)&^16, 0, uint32(i)))
			}
		}
		x.home(12, true)
		x.did("Home", want...)
	}
}

// TestPush: P11.3, each block of each class, onto none, one and several: its link first, then a CAS of its page's remote word; nothing hangs on what the bits are.
func TestPush(t *testing.T) {
	g := arena(t, 3, 2)
	for page := range 3 {
		for class := range 4 {
			x := in(t, g, 1)
			x.slabOf(page, class, 0)
			top := uint64(0)
			for _, i := range slices.Concat(begins(class)[1:], begins(class)[:1]) {
				grain := 8*page + i
				x.push(grain, true)
				x.did("Push", stored(g.Link(grain), top), swapped(g.Remote(page), top, uint64(grain)+1))
				top = uint64(grain) + 1
			}
		}
	}
	x := in(t, g, 0)
	for _, grain := range []int{0, 7, 8, 15, 16, 23} {
		page := grain / 8
		x.lay(g.Bits(page), bitsWord(255, page-1, 8))
		x.stack(page)
		x.push(grain, true)
		x.did("Push", stored(g.Link(grain), 0), swapped(g.Remote(page), 0, uint64(grain)+1))
	}
}

// TestPushOfNone: P11.3, a grain that is none: false, and no word is changed.
func TestPushOfNone(t *testing.T) {
	g := arena(t, 3, 2)
	x := in(t, g, 0)
	for page := range 3 {
		x.slabOf(page, page, 0)
	}
	for _, n := range append(wild(), 24, 25, 31, 32, 40, 2048) {
		x.push(n, false)
	}
	x.did("Push of none")
}

// TestPushAgain: P11.3, the CAS is not done, as the stack has changed meanwhile: the link first, again, of what is topmost then.
func TestPushAgain(t *testing.T) {
	g := arena(t, 3, 2)
	for _, c := range []struct {
		what string
		to   []int // what page 1's stack of 9 and 15 turns to
	}{
		{"another one is pushed", []int{8, 9, 15}},
		{"all are drained", nil},
		{"all are drained, and others pushed", []int{15}},
		{"all others are pushed", []int{8, 9, 10, 11, 12, 13, 15}},
	} {
		for ahead := range 3 {
			x := in(t, g, 1)
			x.slabOf(1, 0, 0)
			x.stack(1, 9, 15)
			top := uint64(0)
			if len(c.to) > 0 {
				top = uint64(c.to[0]) + 1
			}
			want := []api.Access{stored(g.Link(14), 10), swapped(g.Remote(1), 10, 15), stored(g.Link(14), top), swapped(g.Remote(1), top, 15)}
			if ahead == 0 {
				want = want[2:]
			}
			x.ahead(ahead, func() { x.stack(1, c.to...) })
			x.push(14, true)
			x.did(c.what, want...)
			x.p.meanwhile = nil
			x.drain(1, append([]int{14}, c.to...)...)
		}
	}
	for times := range 100 {
		x := in(t, g, 1)
		x.slabOf(1, 0, 0)
		want := []api.Access{stored(g.Link(8), 0), swapped(g.Remote(1), 0, 9)}
		for i := range times {
			top := uint64(i%7) + 10
			want = append(want, stored(g.Link(8), top), swapped(g.Remote(1), top, 9))
		}
		x.p.meanwhile = func(n int) {
			if i := n / 3; n%3 == 2 && i < times {
				x.lay(g.Remote(1), uint64(i%7)+10)
			}
		}
		x.push(8, true)
		x.did("Push", want...)
	}
}

// TestPushIsNotGivenUp: P11.3, P11.6, the CAS is not done thousands of times, though the stack is read as it was each time, as another thread pushes block 6 ahead of the CAS, and drains it behind that: the block is not lost.
func TestPushIsNotGivenUp(t *testing.T) {
	g := arena(t, 1, 2)
	for _, l := range [][]int{nil, {3}, {3, 4}} {
		x := in(t, g, 1)
		x.slabOf(0, 0, 0)
		more, vain := append([]int{6}, l...), 0
		x.p.meanwhile = func(n int) {
			switch {
			case vain == 5000:
			case n > 0 && x.p.seen[n-1].Kind == api.Store:
				vain++
				x.stack(0, more...)
			default:
				x.stack(0, l...)
			}
		}
		x.push(5, true)
		x.p.meanwhile = nil
		if vain != 5000 {
			t.Errorf("%d times the CAS was not done", vain)
		}
		x.drain(0, append([]int{5}, more...)...)
	}
}

// TestDrain: P11.4, stacks of none, one and several blocks, up to all of each class: topmost first, by one CAS; links stay as they are.
func TestDrain(t *testing.T) {
	g := arena(t, 3, 2)
	for page := range 3 {
		for class := range 4 {
			for n := range len(begins(class)) + 1 {
				for turn := range n + 1 {
					x := in(t, g, 1)
					x.slabOf(page, class, 0)
					var l []int
					for i := range n {
						l = append(l, 8*page+begins(class)[(i*3+turn)%len(begins(class))])
					}
					x.stack(page, l...)
					top := x.m.Word(g.Remote(page))
					x.drain(page, l...)
					if n == 0 {
						x.did("Drain of none")
						continue
					}
					x.did("Drain", swapped(g.Remote(page), top, 0))
					x.drain(page)
					x.did("Drain once more")
				}
			}
		}
	}
}

// TestDrainOfMany: P11.4, of more than 8 links the first 8 blocks: of a row of many, and of links that lead round.
func TestDrainOfMany(t *testing.T) {
	g := arena(t, 3, 2)
	row := []int{23, 1, 9, 16, 2, 10, 17, 3, 11, 18, 4, 12}
	for n := 8; n <= len(row); n++ {
		x := in(t, g, 0)
		x.stack(2, row[:n]...)
		x.drain(2, row[:8]...)
		x.did("Drain", swapped(g.Remote(2), 24, 0))
	}
	for n := 1; n <= 9; n++ {
		x := in(t, g, 0)
		x.stack(1, row[:n]...)
		x.lay(g.Link(row[n-1]), 24)
		var l []int
		for i := range 8 {
			l = append(l, row[i%n])
		}
		x.drain(1, l...)
		x.did("Drain", swapped(g.Remote(1), 24, 0))
	}
}

// TestDrainOfNoBlock: P11.4, R1, a stack whose word, or whose links, tell of no grain there is: the blocks ahead of that.
func TestDrainOfNoBlock(t *testing.T) {
	g := arena(t, 3, 2)
	for _, w := range []uint64{25, 26, 32, 1 << 31, 1<<32 + 1, 1 << 63, 1<<63 + 1, 1<<63 - 1, math.MaxUint64, math.MaxUint64 - 1} {
		x := in(t, g, 0)
		x.lay(g.Remote(1), w)
		x.drain(1)
		x.did("Drain", swapped(g.Remote(1), w, 0))
		for n := 1; n <= 8; n++ {
			l := []int{8, 10, 9, 15, 12, 14, 13, 11}[:n]
			x.stack(1, l...)
			x.lay(g.Link(l[n-1]), w)
			x.drain(1, l...)
			x.did("Drain", swapped(g.Remote(1), 9, 0))
		}
	}
}

// TestDrainOfNoPage: P11.4, a page that there is not: none, and no word is changed.
func TestDrainOfNoPage(t *testing.T) {
	g := arena(t, 3, 2)
	x := in(t, g, 0)
	for page := range 3 {
		x.stack(page, 8*page, 8*page+3)
	}
	for _, n := range append(wild(), 3, 4, 8, 24, 256) {
		x.drain(n)
	}
	x.did("Drain of none")
}

// TestDrainAgain: P11.4, the CAS is not done, as the stack has changed meanwhile: again, by what it is then.
func TestDrainAgain(t *testing.T) {
	g := arena(t, 3, 2)
	for _, to := range [][]int{nil, {8}, {15}, {11, 9}, {8, 9, 15}, {8, 9, 10, 11, 12, 13, 14, 15}} {
		x := in(t, g, 1)
		x.stack(1, 9, 15)
		x.ahead(1, func() { x.stack(1, to...) })
		first := swapped(g.Remote(1), 10, 0)
		x.drain(1, to...)
		if len(to) == 0 {
			x.did("Drain", first)
			continue
		}
		x.did("Drain", first, swapped(g.Remote(1), uint64(to[0])+1, 0))
	}
	for times := range 100 {
		x := in(t, g, 1)
		x.stack(1, 8)
		top := func(i int) int { return 8 + i%8 }
		var want []api.Access
		for i := range times + 1 {
			want = append(want, swapped(g.Remote(1), uint64(top(i))+1, 0))
		}
		x.p.meanwhile = func(n int) {
			if i := n / 2; n%2 == 1 && i < times {
				x.stack(1, top(i+1))
			}
		}
		x.drain(1, top(times))
		x.did("Drain", want...)
	}
}

// TestStackThatComesBack: P11.3, P11.4, the word of a stack is what it was, though the stack is another one: all its blocks are there.
func TestStackThatComesBack(t *testing.T) {
	g := arena(t, 1, 2)
	x := in(t, g, 0)
	x.stack(0, 3, 4)
	x.ahead(2, func() { x.stack(0, 3, 5, 6) })
	x.push(1, true)
	x.did("Push", stored(g.Link(1), 4), swapped(g.Remote(0), 4, 2))
	x.ahead(1, func() { x.stack(0, 1, 7) })
	x.drain(0, 1, 7)
	x.did("Drain", swapped(g.Remote(0), 2, 0))
}

// TestRetire: P11.5, all blocks are home: the bits' word first, then the page is freed, with the free pages at both sides.
func TestRetire(t *testing.T) {
	g := arena(t, 5, 2)
	for class := range 4 {
		for _, ver := range []uint32{0, 1, 77, math.MaxUint32 - 1, math.MaxUint32} {
			for _, c := range []struct{ ahead, behind int }{{used, used}, {free, used}, {used, free}, {free, free}} {
				m := zeros(t, g)
				x := &lab{t, g, m, m.Copy(), &watch{Direct: port.New(m, 1)}}
				x.lay(g.Page(0), pageWord(c.ahead, 2, 0, 0))
				x.lay(g.Page(3), pageWord(c.behind, 2, 0, 0))
				if c.ahead == free {
					x.lay(g.Page(1), pageWord(tail, 2, 0, 0))
				}
				if c.behind == free {
					x.lay(g.Page(4), pageWord(tail, 2, 0, 0))
				}
				x.lay(g.Bin(1), 10)
				x.lay(g.Page(2), pageWord(slabs, 1, class, 63))
				x.lay(g.Bits(2), bitsWord(all(class), class, ver))
				retired := swapped(g.Bits(2), bitsWord(all(class), class, ver), bitsWord(0, -1, ver+1))
				x.like.Do(retired)
				if !runs.Free(port.New(x.like, 1), g, 2, 1) {
					t.Fatal("Free(2, 1)")
				}
				x.retire(2, true)
				changes := slices.DeleteFunc(slices.Clone(x.p.seen), func(a api.Access) bool { return a.Kind == api.Load })
				if changes[0] != retired || !mem.Same(m, x.like) || x.p.told != 0 {
					t.Fatalf("class %d: Retire has the accesses %v", class, changes)
				}
				was := m.Copy()
				if slab.Retire(x.p, g, 2) || !mem.Same(m, was) {
					t.Fatal("Retire once more")
				}
			}
		}
	}
}

// TestRetireOfNone: P11.5, of a page with a block that is not home, be it held or in the remote stack; of one without a class, or of a number that is no class's; of a page that there is not: false, and no word is changed.
func TestRetireOfNone(t *testing.T) {
	g := arena(t, 3, 2)
	x := in(t, g, 1)
	for class := range 4 {
		for home := range uint64(256) {
			if home&all(class) == all(class) {
				continue
			}
			x.slabOf(1, class, home)
			x.stack(1)
			x.retire(1, false)
			for block, i := range begins(class) {
				if home>>block&1 == 0 {
					x.stack(1, 8+i)
				}
			}
			x.retire(1, false)
		}
	}
	x.did("Retire of none")
	x.stack(1)
	for _, kind := range []int{body, free, tail, slabs, used, later} {
		for home := range uint64(256) {
			for _, class := range []int{-1, 4, 5, 6} {
				x.lay(g.Page(1), pageWord(kind, 1, 0, 0))
				x.lay(g.Bits(1), bitsWord(home, class, 3))
				x.retire(1, false)
			}
		}
	}
	for page := range 3 {
		x.slabOf(page, page, all(page))
	}
	for _, n := range append(wild(), 3, 4, 8, 24, 256) {
		x.retire(n, false)
	}
	x.did("Retire of none")
}

// TestRetireNotDone: P11.5, the CAS is not done, as the bits have changed meanwhile: false, and nothing else is done.
func TestRetireNotDone(t *testing.T) {
	g := arena(t, 3, 2)
	for class := range 4 {
		for _, to := range []uint64{bitsWord(all(class)-1, class, 9), bitsWord(0, class, 9), bitsWord(0, -1, 10), bitsWord(all(class), class, 11)} {
			x := in(t, g, 1)
			x.slabOf(1, class, all(class))
			x.ahead(1, func() { x.lay(g.Bits(1), to) })
			x.retire(1, false)
			x.did("Retire", swapped(g.Bits(1), bitsWord(all(class), class, 9), bitsWord(0, -1, 10)))
		}
	}
}

// TestFind: P11.5, each grain of each kind of page: the page's word, by one Load.
func TestFind(t *testing.T) {
	g := arena(t, 9, 64)
	x := in(t, g, 3)
	l := []word.Page{{Kind: used, Len: 2}, {}, {Kind: free, Len: 3}, {}, {Kind: tail, Len: 3}, {Kind: slabs, Len: 1, Class: 2, Owner: 63}, {Kind: later, Len: 1}, {Kind: slabs, Len: 1}, {Kind: slabs, Len: 1, Class: 3, Owner: 3}}
	for page, w := range l {
		x.lay(g.Page(page), pageWord(w.Kind, w.Len, w.Class, w.Owner))
	}
	for grain := range 72 {
		if got := slab.Find(x.p, g, grain); got != l[grain/8] {
			t.Errorf("Find(%d) = %v, want %v", grain, got, l[grain/8])
		}
		if want := []api.Access{{Kind: api.Load, At: g.Page(grain / 8)}}; !slices.Equal(x.p.seen, want) {
			t.Fatalf("Find(%d) has the accesses %v", grain, x.p.seen)
		}
		x.did("Find")
	}
	for _, n := range append(wild(), 72, 73, 79, 80, 2047, 2048) {
		if got := slab.Find(x.p, g, n); got != (word.Page{}) {
			t.Errorf("Find(%d) = %v", n, got)
		}
	}
	x.did("Find of none")
}

// TestAnyThread: P11.1 to P11.5, what is done does not hang on whose port it is done by, but for a slab's owner, of whom the word keeps 7 bits; nor is anything kept from call to call.
func TestAnyThread(t *testing.T) {
	g := arena(t, 2, 2)
	for _, self := range []int{0, 1, 63, 64, 127, 128, -1, math.MaxInt, math.MinInt} {
		m := zeros(t, g)
		p := port.New(m, self)
		runs.Init(p, g)
		runs.Alloc(p, g, 1, 1)
		if slab.Make(p, g, 0, 3) != 0 || slab.Find(p, g, 4) != (word.Page{Kind: slabs, Len: 1, Class: 3, Owner: self & 127}) {
			t.Errorf("thread %d: Make", self)
		}
		if grain, ok := slab.Take(p, g, 0, 3); grain != 4 || !ok {
			t.Errorf("thread %d: Take", self)
		}
		slab.Push(p, g, 4)
		slab.Push(p, g, 0)
		for _, grain := range slab.Drain(p, g, 0) {
			slab.Home(p, g, grain)
		}
		want := zeros(t, g)
		runs.Init(port.New(want, 0), g)
		store(want, g.Bits(0), bitsWord(0, -1, 2))
		store(want, g.Link(0), 5)
		if !slab.Retire(p, g, 0) || !mem.Same(m, want) {
			t.Errorf("thread %d: what is left", self)
		}
	}
}

// TestAnswersAreNew: P11.4, R4, what Drain answers is memory of its own.
func TestAnswersAreNew(t *testing.T) {
	g := arena(t, 1, 1)
	x := in(t, g, 0)
	x.stack(0, 1, 2, 3)
	l := slab.Drain(x.p, g, 0)
	x.stack(0, 4, 5)
	x.drain(0, 4, 5)
	if !slices.Equal(l, []int{1, 2, 3}) {
		t.Errorf("an answer has changed: %v", l)
	}
}

// TestNoPages: P11.1 to P11.5, R1, a geometry of no pages: no access, and nothing.
func TestNoPages(t *testing.T) {
	m := unlike(t, arena(t, 2, 1))
	x := &lab{t, geom.Geom{}, m, m.Copy(), &watch{Direct: port.New(m, 0)}}
	for i := -2; i < 10; i++ {
		for j := -2; j < 6; j++ {
			x.make(i, j, -1)
			x.takeNone(i, j)
		}
		x.home(i, false)
		x.push(i, false)
		x.drain(i)
		x.retire(i, false)
		if w := slab.Find(x.p, x.g, i); w != (word.Page{}) {
			t.Errorf("Find(%d) = %v", i, w)
		}
	}
	if len(x.p.seen) != 0 {
		t.Errorf("the accesses %v", x.p.seen)
	}
	x.did("no pages")
}

// allCalls does each call with numbers of all kinds.
func allCalls(p api.Port, g geom.Geom) {
	for _, n := range []int{0, 1, 2, 7, 8, 9, 15, 16, 24, 255, 2047, -1, math.MaxInt, math.MinInt} {
		for _, class := range []int{0, 1, 2, 3, 4, 5, 6, 7, -1, -2, math.MaxInt, math.MinInt} {
			slab.Take(p, g, n, class)
		}
		slab.Find(p, g, n)
		slab.Drain(p, g, n)
		slab.Home(p, g, n)
		slab.Push(p, g, n)
		slab.Retire(p, g, n)
		slab.Make(p, g, n, n%4)
		slab.Drain(p, g, n)
	}
}

// TestNoMemory: R1, a memory without words, or with too few, or none: each call ends, and there is no block of no words.
func TestNoMemory(t *testing.T) {
	g := arena(t, 2, 1)
	empty, _ := mem.New(0, 0)
	for _, m := range []*mem.Memory{nil, empty} {
		p := port.New(m, 0)
		allCalls(p, g)
		grain, ok := slab.Take(p, g, 0, 0)
		if grain != 0 || ok || slab.Home(p, g, 0) || slab.Push(p, g, 0) || len(slab.Drain(p, g, 0)) != 0 || slab.Retire(p, g, 0) || slab.Find(p, g, 0) != (word.Page{}) {
			t.Error("there is a block of no words")
		}
	}
	for words := range g.State(0) {
		m, _ := mem.New(words, 0)
		allCalls(port.New(m, 0), g)
	}
	var none *port.Direct
	allCalls(none, g)
}

// TestAnyMemory: R1, memories whose words are no slabs': each call ends, and none panics; what is told of is a grain that there is.
func TestAnyMemory(t *testing.T) {
	g := arena(t, 3, 1)
	c := chance(1)
	for range 3000 {
		m := zeros(t, g)
		for at := g.Page(0); at < g.State(0); at++ {
			switch c.below(4) {
			case 0:
				store(m, at, uint64(c.below(30)))
			case 1:
				store(m, at, uint64(c.below(1<<12))|uint64(c.below(3))<<32)
			case 2:
				store(m, at, uint64(c.below(math.MaxInt))<<1)
			}
		}
		p := port.New(m, 0)
		for page := range 3 {
			for class := range 8 {
				if grain, ok := slab.Take(p, g, page, class); ok && (class > 3 || grain/8 != page || blockAt(class, grain) < 0) {
					t.Fatalf("Take(%d, %d) = %d", page, class, grain)
				}
			}
			for _, grain := range slab.Drain(p, g, page) {
				if grain < 0 || grain >= 24 {
					t.Fatalf("Drain(%d) has %d", page, grain)
				}
			}
		}
		allCalls(p, g)
	}
}
