package central_test

import (
	"math"
	"slices"
	"testing"

	"quillet/api"
	"quillet/central"
	"quillet/geom"
	"quillet/mem"
)

// The tests here hold Obtain and Pages to P13.1 and P13.2, one call behind the other, and with what others do between the accesses of one.

// firsts are the first blocks of pages.
func firsts(pages []int) []int {
	var l []int
	for _, page := range pages {
		l = append(l, 8*page)
	}
	return l
}

// seconds are the second blocks of pages of a class.
func seconds(class int, pages []int) []int {
	var l []int
	for _, page := range pages {
		l = append(l, 8*page+begins(class)[1])
	}
	return l
}

// TestPlaces: P13.1, each class: of all places where there is a block, the first one of the chapter's row is asked first; what is of other classes, and in caches of other threads, stays where it is till there is no page.
func TestPlaces(t *testing.T) {
	for class := range 4 {
		for self := range 2 {
			x := in(t, 12, 2)
			other := 1 - self
			unlike := (class + 1) % 4
			decoy := x.slabOf(unlike, self) // page 0
			x.cached(self, unlike, 8*decoy)
			x.push(8*decoy + begins(unlike)[1])
			var s []int
			for range 9 { // pages 1 to 9
				s = append(s, x.slabOf(class, other))
			}
			held := x.runOf(1) // page 10
			x.deferred(held, 1)
			first, second := firsts(s), seconds(class, s)
			x.cached(self, class, first[8], first[0])
			x.cached(other, class, second[8])
			x.bagged(self, class, first[7], second[0])
			x.bagged(other, class, first[6])
			x.push(first[2], second[2], first[5])
			x.home(first[4], second[3])

			x.by(self)
			x.obtain(class, first[8], api.OK, 0) // the own cache, slot by slot
			x.obtain(class, first[0], api.OK, 0)
			x.caches(other, class, second[8], -1)
			x.obtain(class, first[7], api.OK, 0) // the bag, the own list first
			x.obtain(class, second[0], api.OK, 0)
			x.obtain(class, first[6], api.OK, 0)
			x.stack(s[2], second[2], first[2])
			x.bits(s[3], class, second[3])
			x.obtain(class, second[2], api.OK, 1) // remote stacks, page by page, topmost first
			x.stack(s[2])
			x.bits(s[2], class, first[2])
			x.stack(s[5], first[5])
			x.obtain(class, first[5], api.OK, 0)
			x.obtain(class, first[2], api.OK, 0) // bits, page by page
			x.obtain(class, second[3], api.OK, 0)
			x.obtain(class, first[4], api.OK, 0)
			x.word(10, later, 1, 0, 0)
			x.obtain(class, 8*11, api.OK, 1) // a new page
			x.word(11, slabs, 1, class, self)
			var others []int
			for _, at := range begins(class)[1:] {
				others = append(others, 8*11+at)
			}
			x.bits(11, class, others...)
			for _, grain := range others {
				x.obtain(class, grain, api.OK, 0)
			}
			x.caches(other, class, second[8], -1)
			x.caches(self, unlike, 8*decoy, -1)
			x.stack(decoy, 8*decoy+begins(unlike)[1])
			x.word(10, later, 1, 0, 0)
			moves := uint64(4) // three blocks go home, the deferred run is freed
			if len(begins(unlike)) == 2 {
				moves++ // the decoy is retired
			}
			x.obtain(class, second[8], api.OK, moves) // all that a Sweep finds
		}
	}
}

// TestFirstOfRemote: P13.1, of a remote stack the topmost block is told, and all others are home, each of them counted; a stack of another page of the class, and those of other classes, stay.
func TestFirstOfRemote(t *testing.T) {
	for class := range 4 {
		x := in(t, 4, 3)
		other, a, b := x.slabOf((class+1)%4, 0), x.slabOf(class, 1), x.slabOf(class, 2)
		x.push(8*other, 8*b)
		var l []int
		for _, at := range begins(class) {
			x.push(8*a + at)
			l = append(l, 8*a+at)
		}
		top := l[len(l)-1]
		x.obtain(class, top, api.OK, uint64(len(l)-1))
		x.bits(a, class, l[:len(l)-1]...)
		x.stack(a)
		x.stack(b, 8*b)
		x.stack(other, 8*other)
		x.obtain(class, 8*b, api.OK, 0)
		x.stack(other, 8*other)
		x.obtain(class, 8*a, api.OK, 0)
	}
}

// TestNewSlab: P13.1, a block of a new page: the page's word tells class and owner, the other blocks are home, and that is one move; the page is that of the shortest free run, and no deferred one.
func TestNewSlab(t *testing.T) {
	for class := range 4 {
		for self := range 3 {
			x := in(t, 8, 3)
			x.deferred(x.runOf(1), 1)
			gap := x.runOf(1)
			x.runOf(1)
			x.release(8*gap, 3) // with the deferred one, two pages are free from 0 on
			x.word(0, free, 2, 0, 0)
			x.by(self)
			x.obtain(class, 0, api.OK, 1)
			x.word(0, slabs, 1, class, self)
			x.word(1, free, 1, 0, 0)
			x.bits(0, class, begins(class)[1:]...)
			x.obtain((class+1)%4, 8, api.OK, 1)
			x.obtain((class+2)%4, 24, api.OK, 1)
		}
	}
}

// TestObtainBusy: P13.1, as long as another thread holds the lock what can be had without it is had, and ErrBusy is told of a new page, and nothing has moved.
func TestObtainBusy(t *testing.T) {
	x := in(t, 4, 2)
	a, b := x.slabOf(2, 0), x.slabOf(2, 1)
	x.heldBy(1)
	x.cached(0, 2, 8*a)
	x.bagged(1, 2, 8*b)
	x.push(8*b + 3)
	x.home(8*a + 3)
	for _, grain := range []int{8 * a, 8 * b, 8*b + 3, 8*a + 3} {
		x.obtain(2, grain, api.OK, 0)
	}
	was := x.m.Copy()
	for class := range 4 {
		x.obtain(class, 0, api.ErrBusy, 0)
		if !mem.Same(x.m, was) {
			t.Fatal("ErrBusy, and something has changed")
		}
	}
	x.cached(1, 2, 8*a) // what a Sweep would find
	x.obtain(2, 0, api.ErrBusy, 0)
	x.caches(1, 2, 8*a, -1)
	x.heldBy(-1)
	x.obtain(2, 16, api.OK, 1)
}

// TestPagesBusy: P13.2, ErrBusy, as long as another thread holds the lock: nothing has moved.
func TestPagesBusy(t *testing.T) {
	x := in(t, 4, 2)
	x.deferred(x.runOf(1), 1)
	x.cached(1, 2, 8*x.slabOf(2, 0))
	x.heldBy(1)
	was := x.m.Copy()
	x.pages(1, 1, 0, api.ErrBusy, 0)
	x.pages(4, 1, 0, api.ErrBusy, 0)
	if !mem.Same(x.m, was) {
		t.Fatal("ErrBusy, and something has changed")
	}
	x.heldBy(-1)
	x.pages(1, 1, 0, api.OK, 1)
}

// TestPages: P13.2, runs of k pages at multiples of a, of the best fit; deferred ones are collected ahead of that, also if there is a run without them.
func TestPages(t *testing.T) {
	x := in(t, 16, 2)
	x.pages(3, 1, 0, api.OK, 0)
	x.pages(1, 8, 64, api.OK, 0)
	x.pages(2, 4, 32, api.OK, 0) // pages 3, 6 and 7, 9 to 15 are left
	x.word(4, used, 2, 0, 0)
	x.pages(1, 1, 24, api.OK, 0)
	x.deferred(0, 3)
	x.deferred(3, 1)
	x.pages(2, 1, 48, api.OK, 2)
	x.word(0, free, 4, 0, 0)
	x.pages(1, 4, 0, api.OK, 0) // both fit; the shorter one does
	x.pages(4, 2, 80, api.OK, 0)
	x.pages(1, math.MaxInt, 0, api.ErrNoMem, 0) // 0 alone is a multiple
	x.release(0, 2)
	x.pages(1, math.MaxInt, 0, api.OK, 0)
	x.release(0, 2)
	x.deferred(4, 2)
	x.by(1)
	x.pages(16, 1, 0, api.ErrNoMem, 1)
	x.pages(6, 1, 0, api.OK, 0)
}

// TestPagesOfSlabs: P13.2, is there no run, all goes home: slabs that nobody holds a block of are free, and the run is had.
func TestPagesOfSlabs(t *testing.T) {
	for class := range 4 {
		x := in(t, 4, 2)
		x.runOf(1)
		s := []int{x.slabOf(class, 0), x.slabOf(class, 1), x.slabOf(class, 1)}
		n := uint64(0)
		for i, at := range begins(class) {
			for j, page := range s {
				switch grain := 8*page + at; {
				case i == 0 && j < 2:
					x.cached(j, class, grain)
				case i == 1:
					x.push(grain)
				case i%2 == 0:
					x.bagged(j%2, class, grain)
				default:
					x.home(grain)
					continue
				}
				n++
			}
		}
		y := x.copy()
		y.pages(3, 2, 0, api.ErrNoMem, n+3)
		y.pages(2, 2, 16, api.OK, 0)
		x.by(1)
		x.pages(3, 1, 8, api.OK, n+3)
		x.pages(1, 1, 0, api.ErrNoMem, 0)
		x.release(8, 2)
		x.release(0, 2)
		x.isClean()
	}
}

// TestNothingLeft: P13.1, P13.2, P13.5, ErrNoMem is told when all is held, and changes nothing; what is held in part of a page of another class does not help.
func TestNothingLeft(t *testing.T) {
	x := in(t, 3, 2)
	x.obtain(0, 0, api.OK, 1)
	x.pages(1, 1, 8, api.OK, 0)
	x.obtain(3, 16, api.OK, 1)
	x.obtain(3, 20, api.OK, 0)
	for class := 1; class < 4; class++ {
		x.obtain(class, 0, api.ErrNoMem, 0)
	}
	x.pages(1, 1, 0, api.ErrNoMem, 0)
	for grain := 1; grain < 8; grain++ {
		x.obtain(0, grain, api.OK, 0)
	}
	was := x.m.Copy()
	for self := range 2 {
		x.by(self)
		for class := range 4 {
			x.obtain(class, 0, api.ErrNoMem, 0)
		}
		for k := 1; k < 4; k++ {
			x.pages(k, 1, 0, api.ErrNoMem, 0)
		}
	}
	if !mem.Same(x.m, was) {
		t.Fatal("ErrNoMem, and something has changed")
	}
}

// TestOwnMoves: P13.1, P13.2, the epoch is held against what the call's own moves have added: ErrNoMem is told behind one Sweep, whatever that has moved. The lock is got three times then, whatever the epoch is.
func TestOwnMoves(t *testing.T) {
	for _, epoch := range []uint64{0, 7, math.MaxUint64, math.MaxUint64 - 1, math.MaxUint64 - 3} {
		x := in(t, 4, 2)
		store(x.m, x.g.Epoch(), epoch)
		a, b, c := x.slabOf(1, 0), x.slabOf(1, 1), x.slabOf(2, 1)
		x.deferred(x.runOf(1), 1)
		x.cached(1, 1, 8*a)
		x.bagged(0, 1, 8*a+4)
		x.push(8*b, 8*b+2, 8*c)
		x.by(1)
		y := x.copy()
		for _, z := range []*lab{x, y} {
			lock := z.p.book
			if z == x {
				z.pages(2, 1, 0, api.ErrNoMem, 6)
			} else {
				z.runOfAll()
				z.obtain(3, 0, api.ErrNoMem, 5)
			}
			if !slices.Equal(lock.tries, []taken{true, true, true}) {
				t.Fatalf("the lock is got %v", lock.tries)
			}
			if z.epoch() != epoch+lock.moves {
				t.Fatalf("the epoch is %d, behind %d and %d moves", z.epoch(), epoch, lock.moves)
			}
		}
	}
}

// runOfAll makes what is deferred a run that is held.
func (x *lab) runOfAll() {
	for page := range x.g.Pages() {
		if w := x.m.Word(x.g.Page(page)); kindOf(w) == later {
			store(x.m, x.g.Page(page), pageWord(used, lenOf(w), 0, 0))
		}
	}
}

// ask is a call that looks for a block of a class, or, of class -1, for a page.
type ask int

// all are the calls that look for one.
func all() []ask { return []ask{-1, 0, 1, 2, 3} }

func (a ask) of(x *lab) (int, api.Errno) {
	if a < 0 {
		return central.Pages(x.p, x.g, 1, 1)
	}
	return central.Obtain(x.p, x.g, int(a))
}

// full is an arena of 6 pages, all of which is held: a slab of thread 0, a run, a slab of thread 1, a run, and one of two pages. Thread 2 has nothing.
func full(t *testing.T, class int) *lab {
	t.Helper()
	x := in(t, 6, 3)
	for owner := range 2 {
		x.slabOf(class, owner)
		x.runOf(1)
	}
	x.runOf(2)
	return x
}

// cachedFor is a full arena, but for a block in thread 1's cache that does not help the call: its slab is of another class, and has another block that is held.
func (a ask) cachedFor(t *testing.T) *lab {
	t.Helper()
	class := (int(a) + 1) % 4
	x := full(t, class)
	x.cached(1, class, 0)
	return x
}

// alone is how many accesses a call has that finds nothing, when nothing comes between.
func (a ask) alone(x *lab) int {
	x.t.Helper()
	if grain, e := a.of(x); grain != 0 || e != api.ErrNoMem || len(x.p.book.tries) != 3 {
		x.t.Fatalf("call %d: %d, %d, and the lock is tried %d times", a, grain, e, len(x.p.book.tries))
	}
	return len(x.p.seen)
}

// ahead has something done ahead of the access of that number, from 0 on, of the next call; which has to end.
func (x *lab) ahead(at int, what func()) {
	x.p.meanwhile = func(n int, _ api.Access) {
		if n == at {
			what()
		}
		if n > 100000 {
			x.t.Fatal("the call does not end")
		}
	}
}

// TestOthersEpoch: P13.1, P13.2, another thread's moves between two of the call's accesses: all is done again, for what the epoch was when all began is not what it is, and what has changed it are no moves of the call's own. These are counted anew each time.
func TestOthersEpoch(t *testing.T) {
	for _, a := range all() {
		for at := range a.alone(a.cachedFor(t)) {
			for _, more := range []uint64{1, 2, math.MaxUint64} {
				x := a.cachedFor(t)
				x.ahead(at, func() { store(x.m, x.g.Epoch(), x.epoch()+more) })
				grain, e := a.of(x)
				want := 6 // twice as often as alone
				if at == 0 {
					want = 3
				}
				if got := len(x.p.book.tries); grain != 0 || e != api.ErrNoMem || got != want {
					t.Fatalf("call %d, ahead of access %d: %d, %d, and the lock is tried %d times, want %d", a, at, grain, e, got, want)
				}
				x.did("ErrNoMem", 1)
			}
		}
	}
}

// frees are ways in which another thread may release, so that blocks of class 2 alone, or pages, too, come to be had.
var frees = []struct {
	name  string
	pages bool
	do    func(x *lab)
}{
	{"into the own cache", false, func(x *lab) { x.frees(1, 16) }},
	{"onto a remote stack", false, func(x *lab) { x.frees(2, 16) }},
	{"a slab, into the own cache", true, func(x *lab) { x.frees(1, 16, 19) }},
	{"a slab, onto a remote stack", true, func(x *lab) { x.frees(2, 16, 19) }},
	{"a slab, and a Trim", true, func(x *lab) { x.frees(1, 16, 19); central.Trim(x.port(1), x.g) }},
	{"a slab, and a Flush", true, func(x *lab) { x.frees(1, 16, 19); central.Flush(x.port(1), x.g) }},
	{"a run", true, func(x *lab) { x.frees(1, 8) }},
	{"all runs", true, func(x *lab) { x.frees(1, 32, 24, 8) }},
	{"all", true, func(x *lab) { x.frees(1, 32, 24, 8, 0, 3, 16, 19) }},
}

// frees has a thread release blocks.
func (x *lab) frees(self int, grains ...int) {
	for _, grain := range grains {
		central.Release(x.port(self), x.g, grain)
	}
}

// TestReleasedMeanwhile: P13.1, P13.2, P13.5, blocks are released ahead of any of the call's accesses: one is found, wherever they were put.
func TestReleasedMeanwhile(t *testing.T) {
	for _, free := range frees {
		for _, a := range all() {
			if !free.pages && a != 2 {
				continue
			}
			for at := range a.alone(full(t, 2)) {
				x := full(t, 2)
				x.ahead(at, func() { free.do(x) })
				grain, e := a.of(x)
				if e != api.OK {
					t.Fatalf("%s, ahead of access %d: call %d tells %d", free.name, at, a, e)
				}
				x.holds(int(a), grain)
				x.did(free.name, x.p.book.moves)
			}
		}
	}
}

// holds holds a block that was told to being one of its class, or, of class -1, a page.
func (x *lab) holds(class, grain int) {
	x.t.Helper()
	w := x.m.Word(x.g.Page(grain / 8))
	switch {
	case class < 0 && w != pageWord(used, 1, 0, 0), class >= 0 && w&0xffff != pageWord(slabs, 1, class, 0):
		x.t.Fatalf("grain %d, of class %d, lies in a page that is %#x", grain, class, w)
	case class >= 0 && blockAt(class, grain) < 0, class < 0 && grain%8 != 0:
		x.t.Fatalf("no block of class %d begins at %d", class, grain)
	case class >= 0 && homeOf(x.m.Word(x.g.Bits(grain/8)))>>blockAt(class, grain)&1 == 1:
		x.t.Fatalf("block %d is held, and home", grain)
	}
}

// TestLockedMeanwhile: P13.1, P13.2, another thread takes the lock ahead of any of the call's accesses, and keeps it: ErrBusy, at the first place that needs it, in the Sweep, and behind that, when the lock was tried three times. What the Sweep has moved by then is counted.
func TestLockedMeanwhile(t *testing.T) {
	for _, a := range all() {
		had := [4]int{}
		for at := range a.alone(a.cachedFor(t)) {
			x := a.cachedFor(t)
			kept := false
			x.p.meanwhile = func(n int, _ api.Access) {
				if n >= at && !kept && x.m.Word(x.g.Lock()) == 0 {
					x.heldBy(1)
					kept = true
				}
			}
			grain, e := a.of(x)
			got := 0
			for _, took := range x.p.book.tries {
				if took {
					got++
				}
			}
			had[got]++
			want, tries, moves := api.ErrBusy, got+3, uint64(0)
			if got == 3 { // it was past the last place that needs the lock
				want, tries = api.ErrNoMem, 3
			}
			if got > 0 {
				moves = 1
			}
			if grain != 0 || e != want || len(x.p.book.tries) != tries {
				t.Fatalf("call %d, ahead of access %d: %d, %d, and the lock is tried %v", a, at, grain, e, x.p.book.tries)
			}
			x.did("Locked", moves)
		}
		if slices.Contains(had[:], 0) {
			t.Errorf("call %d: the lock is got so often: %v", a, had)
		}
	}
}

// TestOnceMoreFromTheBits: P13.1, behind the Sweep the places ahead of the bits are not asked again, unless the epoch has changed.
func TestOnceMoreFromTheBits(t *testing.T) {
	for i, puts := range []func(x *lab){
		func(x *lab) { x.cached(2, 2, 0) },
		func(x *lab) { x.bagged(2, 2, 0) },
		func(x *lab) { x.bagged(1, 2, 0) },
		func(x *lab) { x.push(0) },
	} {
		for _, counted := range []bool{false, true} {
			x := full(t, 2)
			x.by(2)
			drops := 0
			x.p.meanwhile = func(_ int, a api.Access) {
				if a.Kind != api.CAS || a.At != x.g.Lock() || a.B != 0 {
					return
				}
				if drops++; drops != 2 {
					return
				}
				puts(x) // the Sweep is at its end
				if counted {
					store(x.m, x.g.Epoch(), x.epoch()+1)
				}
			}
			want := api.ErrNoMem
			if counted {
				want = api.OK
			}
			x.obtain(2, 0, want, 0)
			if drops < 3 {
				t.Errorf("%d: the lock is dropped %d times", i, drops)
			}
		}
	}
}

// TestAnotherClass: P13.1, P13.5, ahead of any of an Obtain's accesses the page that has a block for it is freed, made a slab of another class, and two blocks of that are put onto its remote stack: what is told is of the class that was asked for all the same, and no block is lost.
func TestAnotherClass(t *testing.T) {
	for class := range 4 {
		for other := range 4 {
			if other != class {
				becomesAnother(t, class, other)
			}
		}
	}
}

// becomesAnother goes through the accesses of an Obtain of a class, at each of which the page becomes one of another class.
func becomesAnother(t *testing.T, class, other int) {
	t.Helper()
	raced, n := 0, 1
	for at := 0; at < n; at++ {
		x := in(t, 2, 3)
		x.push(8 * x.slabOf(class, 1))
		x.home(begins(class)[1:]...)
		x.ahead(at, func() {
			central.Trim(x.port(1), x.g)
			first, e := central.Obtain(x.port(1), x.g, other)
			second, err := central.Obtain(x.port(1), x.g, other)
			if e != api.OK || err != api.OK {
				return // the call itself holds the lock
			}
			x.frees(2, second, first)
			if len(stackOf(x.m, x.g, 0)) == 2 {
				raced++
			}
		})
		grain, e := central.Obtain(x.p, x.g, class)
		if e != api.OK {
			t.Fatalf("class %d, %d: ahead of access %d: %d", class, other, at, e)
		}
		n = max(n, len(x.p.seen))
		x.holds(class, grain)
		x.did("Obtain", x.p.book.moves)
		x.frees(0, grain)
		central.Trim(x.port(0), x.g)
		x.isClean()
	}
	if raced < 2 {
		t.Errorf("class %d, %d: the page was of the other class %d times", class, other, raced)
	}
}

// TestWrong: P13.1, P13.2, P13.3, classes, numbers of pages and grains that are none, ports that are nil, geometries of no pages: nothing is done; 0, ErrNoMem.
func TestWrong(t *testing.T) {
	x := in(t, 3, 2)
	x.cached(0, 2, 8*x.slabOf(2, 0))
	x.deferred(x.runOf(1), 1)
	was := x.m.Copy()
	same := func(what string) {
		t.Helper()
		if !mem.Same(x.m, was) {
			t.Fatalf("%s: something is done", what)
		}
	}
	for _, n := range wild() {
		x.obtain(n, 0, api.ErrNoMem, 0)
		x.pages(n, 1, 0, api.ErrNoMem, 0)
		x.release(n, 0)
	}
	for _, class := range []int{4, 5, 6, 7} {
		x.obtain(class, 0, api.ErrNoMem, 0)
	}
	for _, k := range []int{0, 4, 5, -1} {
		x.pages(k, 1, 0, api.ErrNoMem, 0)
	}
	for _, a := range []int{0, -1, -2, -8, math.MinInt, math.MinInt + 1} {
		x.pages(1, a, 0, api.ErrNoMem, 0)
		x.pages(2, a, 0, api.ErrNoMem, 0)
	}
	for _, grain := range []int{24, 25, 31, 32, 64} {
		x.release(grain, 0)
	}
	same("what is none")
	if len(x.p.seen) != 0 {
		t.Fatal("what is none has accesses")
	}
	calls := func(what string, p api.Port, g geom.Geom) {
		t.Helper()
		grain, e := central.Obtain(p, g, 2)
		first, err := central.Pages(p, g, 1, 1)
		if grain != 0 || e != api.ErrNoMem || first != 0 || err != api.ErrNoMem {
			t.Errorf("%s: %d, %d; %d, %d", what, grain, e, first, err)
		}
		central.Release(p, g, 3)
		moves, got := central.Sweep(p, g)
		central.Flush(p, g)
		if e := central.Trim(p, g); moves != 0 || got || e != api.ErrNoMem {
			t.Errorf("%s: %d, %v; %d", what, moves, got, e)
		}
		same(what)
	}
	calls("no port", nil, x.g)
	calls("no pages", x.p, geom.Geom{})
	calls("neither", nil, geom.Geom{})
	if len(x.p.seen) != 0 {
		t.Fatal("no pages, and accesses")
	}
}
