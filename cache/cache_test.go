package cache_test

import (
	"math"
	"slices"
	"testing"

	"quillet/api"
	"quillet/cache"
	"quillet/geom"
	"quillet/mem"
	"quillet/port"
)

// The tests name the promises of shared/doc/12-cache.md that they hold the package to. Those of many threads are in rows_test.go.

// slots is how many each cache has, by chapter 2.
const slots = 2

// arena is the geometry of an arena that there can be.
func arena(t *testing.T, pages, threads int) geom.Geom {
	t.Helper()
	g, ok := geom.New(pages, threads)
	if !ok {
		t.Fatalf("geom.New(%d, %d): false", pages, threads)
	}
	return g
}

// store lays a word of a memory.
func store(m *mem.Memory, at int, w uint64) {
	m.Do(api.Access{Kind: api.Store, At: at, A: w})
}

// zeros is a memory of an arena's words and bytes, all of which are 0.
func zeros(t *testing.T, g geom.Geom) *mem.Memory {
	t.Helper()
	m, e := mem.New(g.Words(), g.Pages()*api.Page)
	if e != api.OK {
		t.Fatalf("mem.New: %d", e)
	}
	return m
}

// unlike is such a memory, no two of whose words are the same, and none of which is 0.
func unlike(t *testing.T, g geom.Geom) *mem.Memory {
	t.Helper()
	m := zeros(t, g)
	for at := range m.Words() {
		store(m, at, uint64(at)*0x9e3779b97f4a7c15+0x1234567)
	}
	for at := range m.Bytes() {
		m.Do(api.Access{Kind: api.Put, At: at, A: uint64(at)*7 + 1})
	}
	return m
}

// watch is a port that writes down its accesses. Ahead of each of them it does what meanwhile says, which is told how many there were.
type watch struct {
	*port.Direct
	seen      []api.Access
	told      int
	meanwhile func(n int)
}

func (w *watch) note(a api.Access) {
	if w.meanwhile != nil {
		w.meanwhile(len(w.seen))
	}
	w.seen = append(w.seen, a)
}

func (w *watch) Load(at int) uint64 {
	w.note(loaded(at))
	return w.Direct.Load(at)
}

func (w *watch) Store(at int, v uint64) {
	w.note(api.Access{Kind: api.Store, At: at, A: v})
	w.Direct.Store(at, v)
}

func (w *watch) CAS(at int, old, new uint64) bool {
	w.note(swapped(at, old, new))
	return w.Direct.CAS(at, old, new)
}

func (w *watch) Add(at int, n uint64) uint64 {
	w.note(api.Access{Kind: api.Add, At: at, A: n})
	return w.Direct.Add(at, n)
}

func (w *watch) Get(at int) byte {
	w.note(api.Access{Kind: api.Get, At: at})
	return w.Direct.Get(at)
}

func (w *watch) Put(at int, b byte) {
	w.note(api.Access{Kind: api.Put, At: at, A: uint64(b)})
	w.Direct.Put(at, b)
}

func (w *watch) Tell(r api.Result) {
	w.told++
	w.Direct.Tell(r)
}

// loaded and swapped are accesses.
func loaded(at int) api.Access { return api.Access{Kind: api.Load, At: at} }
func swapped(at int, from, to uint64) api.Access {
	return api.Access{Kind: api.CAS, At: at, A: from, B: to}
}

// lab is a memory in which each call is held to its accesses.
type lab struct {
	t       *testing.T
	g       geom.Geom
	m, like *mem.Memory // the memory, and what it ought to be
	p       *watch
}

// in is a lab of a thread in a memory of unlike words.
func in(t *testing.T, g geom.Geom, self int) *lab {
	t.Helper()
	m := unlike(t, g)
	return &lab{t, g, m, m.Copy(), &watch{Direct: port.New(m, self)}}
}

// by hands the lab over to another thread.
func (x *lab) by(self int) { x.p = &watch{Direct: port.New(x.m, self)} }

// lay lays a word by hand.
func (x *lab) lay(at int, w uint64) {
	store(x.m, at, w)
	store(x.like, at, w)
}

// has lays what a thread's cache of a class has by hand.
func (x *lab) has(thread, class int, items ...uint64) {
	for slot, item := range items {
		x.lay(x.g.Cache(thread, class, slot), item)
	}
}

// did holds a call to having had these accesses, and no others, to the memory that they leave, and to having told nothing.
func (x *lab) did(what string, want ...api.Access) {
	x.t.Helper()
	for _, a := range want {
		x.like.Do(a)
	}
	if !slices.Equal(x.p.seen, want) {
		x.t.Fatalf("%s: the accesses %v, want %v", what, x.p.seen, want)
	}
	if !mem.Same(x.m, x.like) {
		x.t.Fatalf("%s: another word is touched", what)
	}
	if x.p.told != 0 {
		x.t.Fatalf("%s tells what only a call tells", what)
	}
	x.p.seen, x.p.meanwhile = nil, nil
}

// The calls, each held to an answer; of Take and Steal 0 is none.
func (x *lab) put(class int, item uint64, want bool) {
	x.t.Helper()
	if got := cache.Put(x.p, x.g, class, item); got != want {
		x.t.Fatalf("Put(%d, %d) = %v", class, item, got)
	}
}

func (x *lab) take(class int, item uint64) {
	x.t.Helper()
	if got, ok := cache.Take(x.p, x.g, class); got != item || ok != (item != 0) {
		x.t.Fatalf("Take(%d) = %d, %v, want %d", class, got, ok, item)
	}
}

func (x *lab) steal(thread, class int, item uint64) {
	x.t.Helper()
	if got, ok := cache.Steal(x.p, x.g, thread, class); got != item || ok != (item != 0) {
		x.t.Fatalf("Steal(%d, %d) = %d, %v, want %d", thread, class, got, ok, item)
	}
}

// ahead lays a word ahead of the access of that number, from 0 on, of the next call.
func (x *lab) ahead(n, at int, w uint64) {
	before := x.p.meanwhile
	x.p.meanwhile = func(i int) {
		if before != nil {
			before(i)
		}
		if i == n {
			x.lay(at, w)
		}
	}
}

// some are threads of so many: the first ones, and the last ones.
func some(threads int) []int {
	l := []int{0, 1, 2, threads - 2, threads - 1}
	slices.Sort(l)
	return slices.DeleteFunc(slices.Compact(l), func(self int) bool { return self < 0 || self >= threads })
}

// wild are numbers that are none's.
func wild() []int {
	l := []int{-1, -2, -3, -4, -7, -8, -64, -256, math.MinInt, math.MinInt + 1, math.MinInt32, math.MaxInt, math.MaxInt - 1, math.MaxInt - 7, math.MaxInt32}
	for bit := 8; bit < 63; bit++ { // what is as a number that fits in its lowest bits alone
		for low := range 5 {
			l = append(l, 1<<bit+low, -1<<bit+low-5)
		}
	}
	return l
}

// chance is a row of numbers by a short rule.
type chance uint64

func (c *chance) below(n int) int {
	*c = *c*6364136223846793005 + 1442695040888963407
	return int(uint64(*c) >> 33 % uint64(n))
}

// TestExamples: P12.1, P12.2, the chapter's examples.
func TestExamples(t *testing.T) {
	g := arena(t, 1, 2)
	m := zeros(t, g)
	p, q := port.New(m, 0), port.New(m, 1)
	put := func(item uint64, want bool) {
		t.Helper()
		if got := cache.Put(p, g, 1, item); got != want {
			t.Errorf("Put %d: %v", item, got)
		}
	}
	is := func(want uint64, item uint64, ok bool) {
		t.Helper()
		if item != want || ok != (want != 0) {
			t.Errorf("%d, %v, want %d", item, ok, want)
		}
	}
	take := func(want uint64) {
		t.Helper()
		item, ok := cache.Take(p, g, 1)
		is(want, item, ok)
	}
	steal := func(want uint64) {
		t.Helper()
		item, ok := cache.Steal(q, g, 0, 1)
		is(want, item, ok)
	}
	put(5, true)
	put(7, true)
	put(9, false)
	take(5)
	take(7)
	take(0)

	put(5, true)
	take(5)
	put(7, true)
	put(8, true)
	take(7)
	steal(8)
	steal(0)

	put(0, false)
	if cache.Put(p, g, 4, 5) {
		t.Error("Put in class 4")
	}
	item, ok := cache.Steal(p, g, -1, 0)
	is(0, item, ok)
	if !mem.Same(m, zeros(t, g)) {
		t.Error("what was put is not taken")
	}
}

// TestPut: P12.1, each thread and class, each slot that is 0: slot by slot a CAS from 0, till one is done.
func TestPut(t *testing.T) {
	for _, threads := range []int{1, 2, 64} {
		g := arena(t, 2, threads)
		x := in(t, g, 0)
		for _, self := range some(threads) {
			x.by(self)
			for class := range 4 {
				for _, item := range []uint64{1, 2, 9, 16} {
					first, second := swapped(g.Cache(self, class, 0), 0, item), swapped(g.Cache(self, class, 1), 0, item)
					x.has(self, class, 0, 0)
					x.put(class, item, true)
					x.did("Put into none", first)
					x.put(class, item+1, true)
					x.did("Put behind one", swapped(first.At, 0, item+1), swapped(second.At, 0, item+1))
					x.put(class, item, false)
					x.did("Put into a full one", first, second)
					x.has(self, class, 3, 0)
					x.put(class, item, true)
					x.did("Put into the last slot", first, second)
					x.has(self, class, 0, 3)
					x.put(class, item, true)
					x.did("Put into the first slot", first)
					x.has(self, class, item, 0)
					x.put(class, item, true)
					x.did("Put of what is there", first, second)
					x.has(self, class, item, item)
					x.put(class, item, false)
					x.did("Put of what is there twice", first, second)
				}
			}
		}
	}
}

// TestItems: P12.1, P12.2, each word but 0 is an item, and is taken as it was put.
func TestItems(t *testing.T) {
	g := arena(t, 256, 2)
	x := in(t, g, 1)
	items := []uint64{1, 2, 3, 7, 8, 2047, 2048, 2049, math.MaxUint64, math.MaxUint64 - 1, math.MaxInt64, math.MaxInt64 + 1}
	for bit := range 64 {
		items = append(items, 1<<bit)
	}
	for slot, full := range []uint64{0, 77} {
		for _, item := range items {
			x.has(1, 2, full, 0)
			x.put(2, item, true)
			x.p.seen = nil
			x.like.Do(swapped(g.Cache(1, 2, slot), 0, item))
			x.did("Put")
			if full != 0 {
				x.has(1, 2, 0)
			}
			x.take(2, item)
			x.p.seen = nil
			x.like.Do(swapped(g.Cache(1, 2, slot), item, 0))
			x.did("Take")
		}
	}
}

// TestPutOfNone: P12.1, an item 0, a thread, a class that is none: false, without an access.
func TestPutOfNone(t *testing.T) {
	g := arena(t, 2, 3)
	x := in(t, g, 0)
	for self := range 3 {
		x.by(self)
		for class := range 4 {
			x.has(self, class, 0, 0)
			x.put(class, 0, false)
		}
		x.did("Put of 0")
		for _, class := range append(wild(), 4, 5, 8, 12) {
			x.put(class, 5, false)
			x.put(class, 0, false)
		}
		x.did("Put in no class")
	}
	for _, self := range append(wild(), 3, 4, 5, 63, 64) {
		x.by(self)
		for _, class := range []int{0, 1, 2, 3, 4, -1, math.MaxInt} {
			x.put(class, 5, false)
			x.put(class, 0, false)
		}
		x.did("Put by no thread")
	}
}

// TestTake: P12.2, each thread and class, each of the slots that has an item: slot by slot a Load, and a CAS to 0 of the first item.
func TestTake(t *testing.T) {
	for _, threads := range []int{1, 2, 64} {
		g := arena(t, 2, threads)
		x := in(t, g, 0)
		for _, self := range some(threads) {
			x.by(self)
			for class := range 4 {
				x.taken(self, class, func(item uint64) { x.take(class, item) })
			}
		}
	}
}

// taken holds a Take, or a Steal, of a thread's cache to its accesses, whatever the cache has.
func (x *lab) taken(thread, class int, take func(item uint64)) {
	x.t.Helper()
	first, second := x.g.Cache(thread, class, 0), x.g.Cache(thread, class, 1)
	x.has(thread, class, 0, 0)
	take(0)
	x.did("of none", loaded(first), loaded(second))
	x.has(thread, class, 6, 0)
	take(6)
	x.did("of the first slot", loaded(first), swapped(first, 6, 0))
	x.has(thread, class, 0, 9)
	take(9)
	x.did("of the last slot", loaded(first), loaded(second), swapped(second, 9, 0))
	for _, item := range []uint64{7, 6, 9, math.MaxUint64} {
		x.has(thread, class, 7, item)
		take(7)
		x.did("of both slots", loaded(first), swapped(first, 7, 0))
		take(item)
		x.did("of the one left", loaded(first), loaded(second), swapped(second, item, 0))
		take(0)
		x.did("of none left", loaded(first), loaded(second))
	}
}

// TestSteal: P12.2, of each thread's cache by each thread, the own one, too: as Take. A port of no thread may steal as well.
func TestSteal(t *testing.T) {
	for _, threads := range []int{1, 3, 64} {
		g := arena(t, 2, threads)
		x := in(t, g, 0)
		for _, self := range []int{0, 1, 63, 64, -1, math.MaxInt, math.MinInt} {
			x.by(self)
			for _, thread := range some(threads) {
				for class := range 4 {
					x.taken(thread, class, func(item uint64) { x.steal(thread, class, item) })
				}
			}
		}
	}
}

// TestStealOfNone: P12.2, a thread or a class that is none: 0, false, without an access.
func TestStealOfNone(t *testing.T) {
	g := arena(t, 2, 3)
	x := in(t, g, 0)
	for self := range 3 {
		x.by(self)
		for _, n := range append(wild(), 4, 5, 8, 12) {
			for i := range 4 {
				x.steal(n, i, 0)
				x.steal(i, n, 0)
			}
			x.steal(n, n, 0)
			x.take(n, 0)
		}
		for class := range 4 {
			x.steal(3, class, 0)
		}
		x.did("Steal of none")
	}
	for _, self := range append(wild(), 3, 4, 5, 63, 64) {
		x.by(self)
		for _, class := range []int{0, 1, 2, 3, 4, -1, math.MaxInt} {
			x.take(class, 0)
		}
		x.did("Take by no thread")
	}
}

// TestTakenMeanwhile: P12.2, a CAS of Take, and of Steal, that is not done, as the slot has changed behind the Load: the next slot; no slot is tried again.
func TestTakenMeanwhile(t *testing.T) {
	g := arena(t, 2, 3)
	for thread := range 3 {
		for class := range 4 {
			for self := range 3 {
				first, second := g.Cache(thread, class, 0), g.Cache(thread, class, 1)
				x := in(t, g, self)
				take := func(item uint64) {
					if self == thread {
						x.take(class, item)
					} else {
						x.steal(thread, class, item)
					}
				}
				for _, to := range []uint64{0, 8, 9} {
					x.has(thread, class, 7, 9)
					x.ahead(1, first, to)
					take(9)
					x.did("the first slot changes", loaded(first), swapped(first, 7, 0), loaded(second), swapped(second, 9, 0))

					x.has(thread, class, 7, 0)
					x.ahead(1, first, to)
					take(0)
					x.did("the first slot changes, which is all", loaded(first), swapped(first, 7, 0), loaded(second))

					x.has(thread, class, 0, 9)
					x.ahead(2, second, to&^1)
					take(0)
					x.did("the last slot changes", loaded(first), loaded(second), swapped(second, 9, 0))

					x.has(thread, class, 0, 9)
					x.ahead(1, first, 4)
					x.ahead(2, second, to&^1)
					take(0)
					x.did("the first slot is full behind its Load", loaded(first), loaded(second), swapped(second, 9, 0))

					x.has(thread, class, 7, 9)
					x.ahead(1, first, to)
					x.ahead(3, second, to&^1)
					take(0)
					x.did("both slots change", loaded(first), swapped(first, 7, 0), loaded(second), swapped(second, 9, 0))
				}
				x.has(thread, class, 7, 0)
				x.ahead(1, first, 0)
				x.ahead(2, second, 3)
				take(3)
				x.did("the last slot is full meanwhile", loaded(first), swapped(first, 7, 0), loaded(second), swapped(second, 3, 0))
			}
		}
	}
}

// TestPutMeanwhile: P12.1, slots that change ahead of their CAS, or behind it: each is tried once, by what it is then.
func TestPutMeanwhile(t *testing.T) {
	g := arena(t, 2, 3)
	for self := range 3 {
		for class := range 4 {
			x := in(t, g, self)
			first, second := swapped(g.Cache(self, class, 0), 0, 5), swapped(g.Cache(self, class, 1), 0, 5)
			x.has(self, class, 7, 9)
			x.ahead(0, first.At, 0)
			x.put(class, 5, true)
			x.did("the first slot is free by then", first)
			x.has(self, class, 7, 9)
			x.ahead(1, second.At, 0)
			x.put(class, 5, true)
			x.did("the last slot is free by then", first, second)
			x.has(self, class, 7, 9)
			x.ahead(1, first.At, 0)
			x.put(class, 5, false)
			x.lay(first.At, 7)
			x.did("the first slot is free too late", first, second)
			x.has(self, class, 0, 0)
			x.ahead(0, first.At, 7)
			x.ahead(1, second.At, 9)
			x.put(class, 5, false)
			x.did("both slots are full by then", first, second)
		}
	}
}

// TestAlone: P12.3, a thread alone puts and takes: what is put is taken, by slots, and at most two items are there.
func TestAlone(t *testing.T) {
	g := arena(t, 1, 2)
	for seed := range 100 {
		m := zeros(t, g)
		p := port.New(m, seed%2)
		c := chance(seed)
		var like [4][slots]uint64
		for n := range 1000 {
			class := c.below(4)
			if c.below(2) == 0 {
				item := uint64(n + 1)
				free := slices.Index(like[class][:], 0)
				if got := cache.Put(p, g, class, item); got != (free >= 0) {
					t.Fatalf("Put(%d, %d) = %v, of %v", class, item, got, like[class])
				}
				if free >= 0 {
					like[class][free] = item
				}
				continue
			}
			full := slices.IndexFunc(like[class][:], func(item uint64) bool { return item != 0 })
			want := uint64(0)
			if full >= 0 {
				want = like[class][full]
				like[class][full] = 0
			}
			if item, ok := cache.Take(p, g, class); item != want || ok != (full >= 0) {
				t.Fatalf("Take(%d) = %d, %v, want %d", class, item, ok, want)
			}
		}
	}
}

// TestNoPages: P12.1, P12.2, R1, a geometry of no pages: no access, and nothing.
func TestNoPages(t *testing.T) {
	m := unlike(t, arena(t, 2, 1))
	x := &lab{t, geom.Geom{}, m, m.Copy(), &watch{Direct: port.New(m, 0)}}
	for i := -2; i < 6; i++ {
		for j := -2; j < 6; j++ {
			x.steal(i, j, 0)
		}
		x.put(i, 5, false)
		x.take(i, 0)
	}
	x.did("no pages")
}

// allCalls does each call with numbers of all kinds.
func allCalls(p api.Port, g geom.Geom) {
	for _, n := range []int{0, 1, 2, 3, 4, 63, 64, -1, math.MaxInt, math.MinInt} {
		for _, class := range []int{0, 1, 2, 3, 4, -1, math.MaxInt, math.MinInt} {
			cache.Put(p, g, class, uint64(n))
			cache.Steal(p, g, n, class)
			cache.Take(p, g, class)
		}
	}
}

// TestNoMemory: R1, a memory without words, or with too few, or none: each call ends, and nothing is put or taken where there are no words.
func TestNoMemory(t *testing.T) {
	g := arena(t, 2, 2)
	empty, _ := mem.New(0, 0)
	for _, m := range []*mem.Memory{nil, empty} {
		p := port.New(m, 0)
		allCalls(p, g)
		item, ok := cache.Take(p, g, 0)
		if item != 0 || ok || cache.Put(p, g, 0, 5) {
			t.Error("there is a cache of no words")
		}
	}
	for words := range g.Head(0, 0) {
		m, _ := mem.New(words, 0)
		allCalls(port.New(m, 1), g)
	}
	var none *port.Direct
	allCalls(none, g)
}
