package central_test

import (
	"slices"
	"testing"

	"quillet/api"
	"quillet/central"
	"quillet/geom"
)

// The tests here hold P13.5, and what the calls of P13.1 to P13.4 do, to long rows of the accesses of up to 64 threads, and to calls that no other one overlaps.

// wanders is a body that does calls of all kinds, which hang on its number and a seed. It holds no more than so many blocks at a time, and passes some of them on to other threads, which release them.
func wanders(c *crew, seed, calls, most, k int) deed {
	return func(w *worker, p api.Port, g geom.Geom) {
		next := chance(seed*64 + w.self)
		for i := range calls {
			takes := 8
			if (i/12+seed)%2 == 1 {
				takes = 3 // now more is had, now more is released
			}
			switch what := next.below(20); {
			case what < takes && len(w.has) < most:
				w.obtains(p, g, next.below(4)/(1+seed%3)) // now all classes, now few
			case what < takes+2 && len(w.has) < most:
				w.pages(p, g, 1+next.below(k), 1+next.below(k))
			case what < 17 && len(w.has) > 0:
				w.releases(p, g, w, next.below(len(w.has)))
			case what == 17:
				if of := c.workers[next.below(len(c.workers))]; len(of.has) > 0 {
					w.releases(p, g, of, next.below(len(of.has)))
				}
			case what == 18:
				w.flushes(p, g)
			case what == 19 && next.below(2) == 0:
				w.trims(p, g)
			case what == 19:
				w.sweeps(p, g)
			}
		}
	}
}

// wandering is a crew of threads that wander.
func wandering(t *testing.T, g geom.Geom, seed, calls, most int) *crew {
	t.Helper()
	c := newCrew(t, g, fresh(t, g))
	c.begin(slices.Repeat([]deed{wanders(c, seed, calls, most, min(3, g.Pages()))}, g.Threads())...)
	return c
}

// goOn steps workers to their ends, in a row by a short rule, now by single accesses, now by many of one thread, but for one that stands still; and looks at where all blocks are ever so often.
func (c *crew) goOn(seed, often, still int) {
	c.t.Helper()
	next := chance(seed)
	var busy []int
	for i := range c.workers {
		if i != still {
			busy = append(busy, i)
		}
	}
	for n := 0; len(busy) > 0; n++ {
		at, steps := next.below(len(busy)), 1
		if next.below(4) == 0 {
			steps += next.below(60)
		}
		for range steps {
			if !c.steps(busy[at]) {
				busy = slices.Delete(busy, at, at+1)
				break
			}
		}
		if n%often == 0 {
			c.look()
		}
	}
}

// TestLongRows: P13.1 to P13.5, threads that do calls of all kinds, in rows by a short rule: no two blocks that are held lie on one another, each is in one place else, each move is counted, and when all is released Trim leaves one free run of all pages.
func TestLongRows(t *testing.T) {
	var did counts
	for _, x := range []struct{ pages, threads, seeds, calls, most, often int }{
		{1, 1, 30, 100, 6, 1}, {1, 2, 60, 100, 4, 1}, {2, 3, 60, 100, 4, 1}, {5, 4, 40, 100, 6, 3}, {3, 64, 2, 20, 2, 100}, {40, 8, 6, 200, 12, 20},
	} {
		g := arena(t, x.pages, x.threads)
		for seed := range x.seeds {
			c := wandering(t, g, seed, x.calls, x.most)
			c.goOn(seed, x.often, -1)
			did.add(c.done())
			c.ended()
		}
	}
	if did.had < 5000 || did.runs < 500 || did.busy < 1000 || did.none < 1000 || did.released < 5000 || did.swept < 500 || did.trimmed < 500 || did.vain < 5000 {
		t.Errorf("it was done too seldom: %+v", did)
	}
}

// TestRoom: P13.1, P13.2, P13.5, in an arena that has room for all that threads hold, and have in their hands, ErrNoMem is never told, whatever overlaps.
func TestRoom(t *testing.T) {
	var did counts
	for _, x := range []struct{ pages, threads, most int }{{18, 2, 2}, {32, 3, 2}, {24, 2, 4}} {
		g := arena(t, x.pages, x.threads)
		for seed := range 20 {
			c := newCrew(t, g, fresh(t, g))
			c.begin(slices.Repeat([]deed{wanders(c, seed, 100, x.most, 1)}, x.threads)...)
			c.goOn(seed, 50, -1)
			did.add(c.done())
			c.ended()
		}
	}
	if did.none > 0 || did.had < 1000 || did.runs < 300 || did.busy < 50 {
		t.Errorf("ErrNoMem is told, or it was done too seldom: %+v", did)
	}
}

// TestStandsStill: P13.5, a thread stands still at each of its accesses, with the lock, too, while all others go on to their ends; then it ends, too.
func TestStandsStill(t *testing.T) {
	g := arena(t, 2, 3)
	busy, locked := 0, 0
	for stood := range 400 {
		c := wandering(t, g, stood%7, 30, 4)
		for range 2*stood + stood/7 {
			c.steps(1)
		}
		before := c.done().busy
		c.goOn(stood, 1, 1)
		if c.m.Word(g.Lock()) == 2 {
			locked++
			busy += c.done().busy - before
		}
		for c.step(1) {
		}
		c.ended()
	}
	if locked < 20 || busy < 100 {
		t.Errorf("%d times it has the lock, and %d times ErrBusy is told", locked, busy)
	}
}

// TestEndedWhereItWaits: P13.5, a thread is ended at each of its accesses: the others go on to their ends, and what they hold lies apart.
func TestEndedWhereItWaits(t *testing.T) {
	g := arena(t, 2, 3)
	for stood := range 400 {
		c := wandering(t, g, stood%7, 30, 4)
		for range 2*stood + stood/7 {
			c.steps(2)
		}
		c.workers[2].Close()
		c.workers[2].closed = true
		c.goOn(stood, 1, 2)
		c.look()
		c.counted()
	}
}

// TestStepsAlone: R1, a call that is stepped alone ends, wherever others stand, within as many steps as P5 allows.
func TestStepsAlone(t *testing.T) {
	for _, x := range []struct{ pages, threads int }{{1, 2}, {2, 3}, {6, 4}} {
		g := arena(t, x.pages, x.threads)
		n := x.pages + x.threads
		most := 10000 * n * n * n
		for seed := range 60 {
			c := wandering(t, g, seed, 30, 4)
			next := chance(seed)
			for range 300 {
				i := next.below(x.threads)
				for range next.below(200) {
					c.steps(i)
				}
				w := c.workers[next.below(x.threads)]
				calls, steps := w.calls, 0
				for w.calls == calls && c.steps(w.self) {
					steps++
				}
				if steps > most {
					t.Fatalf("a call has %d steps", steps)
				}
			}
			for _, w := range c.workers {
				w.Close()
			}
		}
	}
}

// alone is an arena in which threads do calls one behind the other, each held to what it is to answer.
type alone struct {
	*lab
	has       []block
	had, none int // how often a block was told, and ErrNoMem
}

// isFree asks whether no block that is held lies on a page.
func (x *alone) isFree(page int) bool {
	return !slices.ContainsFunc(x.has, func(b block) bool {
		return b.class >= 0 && b.grain/8 == page || b.class < 0 && b.grain/8 <= page && page < b.grain/8+b.k
	})
}

// hasBlock asks whether there is a block of a class: a page on which none lies that is held, or one that has some, but not all, of its blocks of the class held.
func (x *alone) hasBlock(class int) bool {
	for page := range x.g.Pages() {
		n := 0
		for _, b := range x.has {
			if b.class == class && b.grain/8 == page {
				n++
			}
		}
		if x.isFree(page) || n > 0 && n < len(begins(class)) {
			return true
		}
	}
	return false
}

// hasPages asks whether there are k pages in a row, at a multiple of a, on which none lies that is held.
func (x *alone) hasPages(k, a int) bool {
	for first := 0; first+k <= x.g.Pages(); first += a {
		n := 0
		for n < k && x.isFree(first+n) {
			n++
		}
		if n == k {
			return true
		}
	}
	return false
}

// told holds an answer to there being room, and what is told to lying apart from all that is held.
func (x *alone) told(b block, e api.Errno, room bool) {
	x.t.Helper()
	if !room {
		if e != api.ErrNoMem || b.grain != 0 {
			x.t.Fatalf("there is no room, and %v, %d is told", b, e)
		}
		x.none++
		return
	}
	if e != api.OK {
		x.t.Fatalf("there is room for %v, and %d is told", b, e)
	}
	for _, o := range x.has {
		if b.grain < o.grain+o.grains() && o.grain < b.grain+b.grains() {
			x.t.Fatalf("%v is told, and %v is held", b, o)
		}
	}
	x.had++
	x.has = append(x.has, b)
	if b.class < 0 {
		x.word(b.grain/8, used, b.k, 0, 0)
	} else {
		x.holds(b.class, b.grain)
	}
}

// does one call, by a short rule.
func (x *alone) does(next *chance, takes int) {
	x.t.Helper()
	x.by(next.below(x.g.Threads()))
	before := x.epoch()
	switch what := next.below(20); {
	case what < takes:
		class := next.below(4)
		room := x.hasBlock(class)
		grain, e := central.Obtain(x.p, x.g, class)
		x.told(block{grain, class, 1}, e, room)
	case what < takes+3:
		k, a := 1+next.below(x.g.Pages()), 1+next.below(4)
		room := x.hasPages(k, a)
		grain, e := central.Pages(x.p, x.g, k, a)
		if grain%8 != 0 || grain/8%a != 0 {
			x.t.Fatalf("Pages(%d, %d) = %d", k, a, grain)
		}
		x.told(block{grain, -1, k}, e, room)
	case what < 18 && len(x.has) > 0:
		i := next.below(len(x.has))
		b := x.has[i]
		x.has = slices.Delete(x.has, i, i+1)
		central.Release(x.p, x.g, b.grain)
	case what == 18:
		central.Flush(x.p, x.g)
	case what == 19:
		if n, got := central.Sweep(x.p, x.g); !got || n != x.epoch()-before {
			x.t.Fatalf("Sweep = %d, %v", n, got)
		}
	}
	x.did("a call", x.epoch()-before)
}

// TestAlone: P13.5, calls that no other one overlaps, by whatever threads: none tells ErrBusy, and ErrNoMem is told just if there is no room but for the pages that held blocks lie on. When none is held, Trim leaves one free run of all pages.
func TestAlone(t *testing.T) {
	had, none := 0, 0
	for _, s := range []struct{ pages, threads, seeds, calls int }{{1, 1, 100, 150}, {1, 2, 100, 150}, {2, 2, 200, 200}, {3, 4, 150, 300}, {8, 3, 40, 600}, {20, 64, 2, 600}} {
		for seed := range s.seeds {
			x := &alone{lab: in(t, s.pages, s.threads)}
			next := chance(seed)
			for i := range s.calls {
				takes := 12
				if (i/40+seed)%3 == 0 {
					takes = 2
				}
				x.does(&next, takes)
			}
			had, none = had+x.had, none+x.none
			for i, b := range x.has {
				central.Release(x.port(i%s.threads), x.g, b.grain)
			}
			x.by(next.below(s.threads))
			if e := central.Trim(x.p, x.g); e != api.OK {
				t.Fatalf("Trim = %d", e)
			}
			x.isClean()
			x.by(0)
			x.pages(s.pages, 1, 0, api.OK, 0)
		}
	}
	if had < 20000 || none < 5000 {
		t.Errorf("%d blocks are told, and %d times ErrNoMem", had, none)
	}
}
