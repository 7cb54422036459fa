package central_test

import (
	"slices"
	"testing"

	"quillet/api"
	"quillet/central"
	"quillet/geom"
	"quillet/mem"
	"quillet/pool"
	"quillet/port"
)

// The tests here hold Release, Sweep, Flush and Trim to P13.3 and P13.4, one call behind the other.

// TestReleaseOwn: P13.3, each class, each block of the own slab: into the first slot of the own cache that has none, then into the own bag, each of which is one move; nothing goes home.
func TestReleaseOwn(t *testing.T) {
	for class := range 4 {
		for self := range 3 {
			x := in(t, 3, 3)
			pages := []int{x.slabOf(class, self), x.slabOf(class, self), x.slabOf(class, self)}
			var l []int
			for _, page := range pages {
				for _, at := range begins(class) {
					l = append(l, 8*page+at)
				}
			}
			x.by(self)
			for _, grain := range l {
				x.release(grain, 1)
			}
			x.caches(self, class, l[0], l[1])
			if got := bagOf(x.m, x.g, self, class); len(got) != len(l)-2 || !sameBlocks(got, l[2:]) {
				t.Fatalf("in the bag are %v, want %v", got, l[2:])
			}
			for _, page := range pages {
				x.bits(page, class)
				x.stack(page)
			}
			x.obtain(class, l[0], api.OK, 0)
			x.obtain(class, l[1], api.OK, 0)
			x.release(l[1], 1) // slot by slot, whichever block it is
			x.caches(self, class, l[1], -1)
			x.release(l[0], 1)
			x.caches(self, class, l[1], l[0])
		}
	}
}

// sameBlocks asks whether both lists have the same blocks, in whatever row.
func sameBlocks(a, b []int) bool {
	return slices.Equal(slices.Sorted(slices.Values(a)), slices.Sorted(slices.Values(b)))
}

// TestReleaseOthers: P13.3, a block of another owner's slab goes onto its page's remote stack, as topmost one, though the own cache is empty: one move.
func TestReleaseOthers(t *testing.T) {
	for class := range 4 {
		for owner := range 3 {
			for self := range 3 {
				if self == owner {
					continue
				}
				x := in(t, 2, 3)
				x.slabOf(class, self)
				page := x.slabOf(class, owner)
				x.by(self)
				var l []int
				for _, at := range begins(class) {
					x.release(8*page+at, 1)
					l = append([]int{8*page + at}, l...)
					x.stack(page, l...)
				}
				x.bits(page, class)
				for thread := range 3 {
					x.caches(thread, class, -1, -1)
					x.bags(thread, class)
				}
			}
		}
	}
}

// TestReleaseHome: P13.3, a block of the own slab goes home when the cache is full and the bag gets no node: one move. A node of the bag that has a place is enough.
func TestReleaseHome(t *testing.T) {
	for class := range 4 {
		x := in(t, 3, 2)
		a, b, c := x.slabOf(class, 1), x.slabOf(class, 1), x.slabOf(class, 1)
		second := begins(class)[1]
		x.cached(1, class, 8*a, 8*b)
		for pool.Acquire(x.port(0), x.g) != 0 {
		}
		x.by(1)
		x.release(8*c, 1)
		x.bits(c, class, 8*c)
		x.release(8*c+second, 1)
		x.bits(c, class, 8*c, 8*c+second)
		x.bags(1, class)
		pool.Give(x.port(0), x.g, 5)
		x.release(8*a+second, 1)
		x.bags(1, class, 8*a+second)
		x.release(8*b+second, 1)
		x.bags(1, class, 8*a+second, 8*b+second)
		x.obtain(class, 8*a, api.OK, 0)
		x.release(8*a, 1)
		x.caches(1, class, 8*a, 8*b)
	}
}

// TestReleaseRun: P13.3, a run is deferred, which is one move, and all deferred runs are collected, each of which is one; as long as another thread holds the lock they stay deferred.
func TestReleaseRun(t *testing.T) {
	x := in(t, 10, 2)
	for _, k := range []int{3, 1, 2, 1, 2} {
		x.runOf(k) // at 0, 3, 4, 6, 7
	}
	x.heldBy(1)
	x.release(0, 1)
	x.release(8*4, 1)
	x.word(0, later, 3, 0, 0)
	x.word(4, later, 2, 0, 0)
	if w := x.m.Word(x.g.Lock()); w != 2 {
		t.Fatalf("the lock is %d", w)
	}
	x.heldBy(-1)
	x.by(1) // who releases a run need not have had it
	x.release(8*6, 4)
	x.word(0, free, 3, 0, 0)
	x.word(3, used, 1, 0, 0)
	x.word(4, free, 3, 0, 0)
	x.word(7, used, 2, 0, 0)
	x.release(8*3, 2)
	x.word(0, free, 7, 0, 0)
	x.release(8*7, 2)
	x.isClean()
}

// TestReleaseOfNoBlock: P13.3, a grain at which no block begins, of whatever page: nothing is done. A run that is free, or deferred, is none that could be released.
func TestReleaseOfNoBlock(t *testing.T) {
	for class := range 4 {
		x := in(t, 9, 2)
		page, run, gone := x.slabOf(class, 0), x.runOf(2), x.runOf(1) // at 0, 1, 3; the others are free
		x.deferred(gone, 1)
		was := x.m.Copy()
		for _, self := range []int{0, 1} {
			x.by(self)
			for grain := range 8 * 9 {
				isBlock := grain/8 == page && blockAt(class, grain) >= 0
				if !isBlock && grain != 8*run {
					x.release(grain, 0)
				}
			}
			if !mem.Same(x.m, was) {
				t.Fatalf("class %d: something is done", class)
			}
		}
	}
}

// filled is an arena of 3 threads, some of whose slabs of each class have blocks in all places; and what a Sweep has to move, in its row.
func filled(t *testing.T) (*lab, []move) {
	t.Helper()
	x := in(t, 20, 3)
	var l []move
	home := func(grain int) { l = append(l, move{"home", grain}) }
	var pages [4][]int // of each class one of each thread, and one more
	for class := range 4 {
		for i := range 4 {
			pages[class] = append(pages[class], x.slabOf(class, i%3))
		}
	}
	block := func(class, i, n int) int { return 8*pages[class][i] + begins(class)[n] }
	for thread := range 3 {
		for class := range 4 {
			grains := []int{block(class, thread, 1), block(class, thread, 0)}[:(thread+class)%3]
			x.cached(thread, class, grains...)
			for _, grain := range grains {
				home(grain)
			}
		}
	}
	for class := range 4 {
		for i := range 3 { // the thread's own list first, then by number, round; it is thread 1 that sweeps
			thread := (1 + i) % 3
			for n := (thread + class) % 3; n < 2; n++ {
				grain := block(class, thread, 1-n)
				x.bagged(thread, class, grain)
				home(grain)
			}
		}
	}
	for _, page := range []int{3, 7, 11, 15} { // the last slab of each class
		class := page / 4
		for n := range begins(class) {
			x.push(8*page + begins(class)[len(begins(class))-1-n])
		}
		for n := range begins(class) {
			home(8*page + begins(class)[n])
		}
	}
	x.runOf(1)
	x.deferred(17, x.runTo(17, 2))
	x.deferred(19, x.runTo(19, 1))
	l = append(l, move{"collect", 17}, move{"collect", 19})
	for page := range 16 {
		if class := page / 4; page%4 == 3 || class >= 2 { // the other ones have blocks that are held
			l = append(l, move{"retire", page})
		}
	}
	x.by(1)
	return x, l
}

// runTo makes k pages a run that is held, and is k; the first of them has to be that page.
func (x *lab) runTo(page, k int) int {
	x.t.Helper()
	if first := x.runOf(k); first != page {
		x.t.Fatalf("the run is at %d, want %d", first, page)
	}
	return k
}

// TestSweep: P13.4, what is moved, in the chapter's row: of each thread and class what the cache has, of each class what the bag has, of each page what the remote stack has, one block behind the other; then deferred runs, and slabs whose bits are full, page by page. It tells how many moves these were.
func TestSweep(t *testing.T) {
	x, want := filled(t)
	book := x.p.book
	x.sweep(uint64(len(want)), true)
	if !slices.Equal(book.row, want) {
		t.Fatalf("the moves %v, want %v", book.row, want)
	}
	if book.most != 1 {
		t.Fatalf("%d blocks of caches and bags were in hand at a time", book.most)
	}
	if !slices.Equal(book.tries, []taken{true}) {
		t.Fatalf("the lock is tried %v", book.tries)
	}
	for thread := range 3 {
		for class := range 4 {
			x.caches(thread, class, -1, -1)
			x.bags(thread, class)
		}
	}
	for page := range 16 {
		class := page / 4
		x.stack(page)
		if page%4 == 3 || class >= 2 {
			x.bits(page, -1)
		} else {
			x.bits(page, class, 8*page, 8*page+begins(class)[1])
		}
	}
	x.word(3, free, 1, 0, 0)
	x.word(7, free, 9, 0, 0)
	x.word(16, used, 1, 0, 0)
	x.word(17, free, 3, 0, 0)
	x.sweep(0, true)
}

// TestSweepWithoutLock: P13.4, when another thread holds the lock all blocks go home, and that many moves are told, and false; runs and slabs stay. Trim is ErrBusy then, and OK else.
func TestSweepWithoutLock(t *testing.T) {
	x, want := filled(t)
	y, _ := filled(t)
	z := y.copy()
	for _, l := range []*lab{x, y} {
		l.heldBy(2)
	}
	homes := slices.DeleteFunc(slices.Clone(want), func(m move) bool { return m.how != "home" })
	n, rest := uint64(len(homes)), uint64(len(want)-len(homes))
	book := x.p.book
	x.sweep(n, false)
	if !slices.Equal(book.row, homes) || !slices.Equal(book.tries, []taken{false, false, false}) {
		t.Fatalf("the moves %v, want %v; and the lock is tried %v", book.row, homes, book.tries)
	}
	y.trim(api.ErrBusy, n)
	if !mem.Same(x.m, y.m) {
		t.Fatal("Trim does not do as Sweep does")
	}
	x.word(3, slabs, 1, 0, 0)
	x.word(17, later, 2, 0, 0)
	x.sweep(0, false)
	x.heldBy(-1)
	x.sweep(rest, true)
	y.heldBy(-1)
	y.trim(api.OK, rest)
	z.trim(api.OK, n+rest)
	for _, l := range []*lab{y, z} {
		if clean(l.m, l.g) == "" || l.epoch() != n+rest {
			t.Fatalf("the epoch is %d, want %d", l.epoch(), n+rest)
		}
		l.trim(api.OK, 0)
	}
}

// TestSweepOfNothing: P13.4, where nothing is to be moved nothing is, whoever sweeps: no epoch, no word changes.
func TestSweepOfNothing(t *testing.T) {
	for _, pages := range []int{1, 2, 256} {
		x := in(t, pages, 2)
		was := x.m.Copy()
		for self := range 2 {
			x.by(self)
			x.sweep(0, true)
			x.trim(api.OK, 0)
			x.flush(0)
		}
		if !mem.Same(x.m, was) {
			t.Fatalf("%d pages: something is done", pages)
		}
		x.isClean()
	}
}

// TestRetire: P13.4, a slab whose bits are full is retired, each class, whoever owns it; one with a block that is not home stays.
func TestRetire(t *testing.T) {
	for class := range 4 {
		for out := range begins(class) {
			x := in(t, 3, 2)
			a, b, c := x.slabOf(class, 0), x.slabOf(class, 1), x.slabOf(class, 0)
			for i, at := range begins(class) {
				x.home(8*a+at, 8*c+at)
				if i != out {
					x.home(8*b + at)
				}
			}
			x.sweep(2, true)
			x.word(a, free, 1, 0, 0)
			x.word(b, slabs, 1, class, 1)
			x.word(c, free, 1, 0, 0)
			x.home(8*b + begins(class)[out])
			x.trim(api.OK, 1)
			x.isClean()
		}
	}
}

// TestFlush: P13.4, what the own caches have goes home, one block behind the other; the own bags are pruned, and keep what they have; caches and bags of other threads, remote stacks, and the lock are left alone.
func TestFlush(t *testing.T) {
	for self := range 3 {
		x, _ := filled(t)
		x.by(self)
		var want []move
		for class := range 4 {
			for slot := range 2 {
				if w := x.m.Word(x.g.Cache(self, class, slot)); w != 0 {
					want = append(want, move{"home", int(w) - 1})
				}
			}
		}
		x.heldBy((self + 1) % 3)
		book, was := x.p.book, x.m.Copy()
		x.flush(uint64(len(want)))
		if !slices.Equal(book.row, want) || book.most != 1 || len(book.tries) != 0 {
			t.Fatalf("the moves %v, want %v; %d blocks were in hand at a time, and the lock is tried %v", book.row, want, book.most, book.tries)
		}
		for thread := range 3 {
			for class := range 4 {
				if thread == self {
					x.caches(thread, class, -1, -1)
				} else if !sameWords(x.m, was, x.g.Cache(thread, class, 0), 2) {
					t.Fatal("another one's cache is flushed")
				}
				x.bags(thread, class, bagOf(was, x.g, thread, class)...)
			}
		}
		if !sameWords(x.m, was, x.g.Page(0), 20) || !sameWords(x.m, was, x.g.Remote(0), 20) {
			t.Fatal("pages, or remote stacks, are touched")
		}
		x.flush(0)
	}
}

// sameWords asks whether both memories have the same words there.
func sameWords(a, b *mem.Memory, first, n int) bool {
	for at := first; at < first+n; at++ {
		if a.Word(at) != b.Word(at) {
			return false
		}
	}
	return true
}

// TestFlushPrunes: P13.4, nodes of the own lists that have no items are gone, of each class; those of other threads stay, and so do nodes with items.
func TestFlushPrunes(t *testing.T) {
	x := in(t, 4, 2)
	for class := range 4 {
		page := x.slabOf(class, 0)
		for self := range 2 {
			x.bagged(self, class, 8*page+begins(class)[self])
		}
	}
	x.by(1)
	x.flush(0)
	for class := range 4 {
		for self := range 2 {
			if nodesOf(x.m, x.g, self, class) != 1 {
				t.Fatal("a node with an item is gone")
			}
		}
		x.by(0)
		x.obtain(class, 8*class, api.OK, 0)
		x.obtain(class, 8*class+begins(class)[1], api.OK, 0)
	}
	x.by(1)
	x.flush(0)
	for class := range 4 {
		if own, other := nodesOf(x.m, x.g, 1, class), nodesOf(x.m, x.g, 0, class); own != 0 || other != 1 {
			t.Fatalf("class %d: %d nodes of the own list, %d of the other one", class, own, other)
		}
	}
}

// TestTrim: P13.4, P13.5, when nothing is held Trim leaves one free run of all pages, wherever blocks were; and then all pages are had.
func TestTrim(t *testing.T) {
	x, _ := filled(t)
	for class := range 2 {
		for _, page := range []int{0, 1, 2} {
			for _, at := range begins(class)[2:] {
				x.release(8*(page+4*class)+at, 1)
			}
		}
	}
	x.release(8*16, 4)
	for self := range 3 {
		x.by(self)
		y := x.copy()
		y.trim(api.OK, uint64(len(blocksOut(y.m, y.g)))+16)
		y.isClean()
		y.pages(20, 20, 0, api.OK, 0)
	}
}

// blocksOut are all blocks of slabs that are not home.
func blocksOut(m *mem.Memory, g geom.Geom) []int {
	var l []int
	for page := range g.Pages() {
		w := m.Word(g.Bits(page))
		if classOf(w) < 0 {
			continue
		}
		for block, at := range begins(classOf(w)) {
			if homeOf(w)>>block&1 == 0 {
				l = append(l, 8*page+at)
			}
		}
	}
	return l
}

// allCalls does each call with numbers of all kinds.
func allCalls(p api.Port, g geom.Geom) {
	for _, n := range append(wild()[:16], 0, 1, 2, 3, 4, 5, 7, 8, 15, 16, 17) {
		central.Obtain(p, g, n)
		central.Pages(p, g, n, 1)
		central.Pages(p, g, 1, n)
		central.Release(p, g, n)
	}
	central.Sweep(p, g)
	central.Flush(p, g)
	central.Trim(p, g)
}

// TestNoMemory: R1, a memory without words, or with too few, or none, and one that none has made ready: each call ends, and no call finds a block where there are no words.
func TestNoMemory(t *testing.T) {
	g := arena(t, 2, 2)
	empty, _ := mem.New(0, 0)
	for _, m := range []*mem.Memory{nil, empty} {
		p := port.New(m, 0)
		allCalls(p, g)
		for class := range 4 {
			if grain, e := central.Obtain(p, g, class); grain != 0 || e == api.OK {
				t.Errorf("Obtain = %d, %d", grain, e)
			}
		}
		if grain, e := central.Pages(p, g, 1, 1); grain != 0 || e == api.OK {
			t.Errorf("Pages = %d, %d", grain, e)
		}
	}
	for words := range g.Words() {
		m, _ := mem.New(words, 0)
		allCalls(port.New(m, 1), g)
	}
	for seed := range 300 {
		m := zeros(t, g)
		c := chance(seed)
		for at := range m.Words() {
			switch c.below(3) {
			case 0:
				store(m, at, uint64(c.below(64)))
			case 1:
				store(m, at, uint64(c.below(1<<30))<<32|uint64(c.below(1<<30)))
			}
		}
		if seed%4 > 0 {
			store(m, g.Lock(), 0)
		}
		allCalls(port.New(m, seed%3), g)
	}
	var none *port.Direct
	allCalls(none, g)
}
