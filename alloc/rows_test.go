package alloc_test

import (
	"slices"
	"testing"

	"quillet/api"
	"quillet/central"
	"quillet/geom"
)

// The tests here hold P15.2 to P15.4 to rows of the accesses of many threads.

// Bodies of few calls, each row of whose accesses can be gone through.
func mallocs(size int) deed {
	return func(w *worker, p api.Port, g geom.Geom) { w.mallocs(p, g, size) }
}

func callocs(n, size int) deed {
	return func(w *worker, p api.Port, g geom.Geom) { w.callocs(p, g, n, size) }
}

func aligns(align, size int) deed {
	return func(w *worker, p api.Port, g geom.Geom) { w.aligns(p, g, align, size) }
}

func frees(at int) deed {
	return func(w *worker, p api.Port, g geom.Geom) { w.frees(p, g, at) }
}

// lives has a block, and ends it.
func lives(size int) deed {
	return func(w *worker, p api.Port, g geom.Geom) {
		if at, ok := w.mallocs(p, g, size); ok {
			w.frees(p, g, at)
		}
	}
}

// all does several, one behind the other.
func all(l ...deed) deed {
	return func(w *worker, p api.Port, g geom.Geom) {
		for _, d := range l {
			d(w, p, g)
		}
	}
}

// laid does a body by a thread ahead of the rows, to its end.
func (c *crew) laid(self int, d deed) {
	c.t.Helper()
	w := c.workers[self]
	w.Start(func(p api.Port) { d(w, way{p, w}, c.g) })
	c.hears(w)
	for c.step(self) {
	}
	w.did, w.answers = counts{}, 0
	clear(w.wasLive)
}

// outcome is what was told in a row: blocks that were born, and ended; ErrInvalid, ErrBusy, ErrNoMem.
type outcome struct{ born, died, late, busy, none int }

// TestRows: P15.2 to P15.4, two and three threads do calls, in each row of their accesses: each of these outcomes, and no other one, comes to pass in some row.
func TestRows(t *testing.T) {
	for _, x := range []struct {
		name   string
		pages  int
		laid   []deed // by the threads, by number, ahead of the rows
		bodies []deed
		want   []outcome
	}{
		{"two free one block", 1, []deed{mallocs(20)}, []deed{frees(0), frees(0)}, []outcome{{0, 1, 1, 0, 0}}},
		{"two free one block of another one's", 1, []deed{nil, mallocs(20)}, []deed{frees(0), frees(0)}, []outcome{{0, 1, 1, 0, 0}}},
		{"two free the page", 1, []deed{mallocs(64)}, []deed{frees(0), frees(0)}, []outcome{{0, 1, 1, 0, 0}}},
		{"three free one block", 1, []deed{mallocs(32)}, []deed{frees(0), frees(0), frees(0)}, []outcome{{0, 1, 2, 0, 0}}},
		{"two free two blocks", 1, []deed{all(mallocs(20), mallocs(24))}, []deed{frees(0), frees(24)}, []outcome{{0, 2, 0, 0, 0}}},
		{"two free both, in other rows", 1, []deed{all(mallocs(20), mallocs(24))}, []deed{all(frees(0), frees(24)), all(frees(24), frees(0))}, []outcome{{0, 2, 2, 0, 0}}},
		{"both have a block", 1, nil, []deed{mallocs(20), mallocs(20)}, []outcome{{2, 0, 0, 0, 0}, {1, 0, 0, 1, 0}}},
		{"both have a block of another class", 1, nil, []deed{mallocs(20), aligns(32, 8)}, []outcome{{1, 0, 0, 0, 1}, {1, 0, 0, 1, 0}}},
		{"both have the last block", 1, []deed{all(mallocs(20))}, []deed{mallocs(17), callocs(3, 7)}, []outcome{{1, 0, 0, 0, 1}}},
		{"both have the page", 1, nil, []deed{mallocs(33), callocs(2, 3)}, []outcome{{1, 0, 0, 0, 1}, {1, 0, 0, 1, 0}}},
		{"both have a page", 2, nil, []deed{mallocs(33), aligns(64, 1)}, []outcome{{2, 0, 0, 0, 0}, {1, 0, 0, 1, 0}}},
		{"one has a block, one frees it too early, or not", 1, nil, []deed{mallocs(20), frees(0)}, []outcome{{1, 1, 0, 0, 0}, {1, 0, 1, 0, 0}}},
		{"one has a clean block, one frees it too early, or not", 1, nil, []deed{callocs(1, 3), frees(0)}, []outcome{{1, 1, 0, 0, 0}, {1, 0, 1, 0, 0}}},
		{"one has the page, one frees it too early, or not", 1, nil, []deed{mallocs(40), frees(0)}, []outcome{{1, 1, 0, 0, 0}, {1, 0, 1, 0, 0}}},
		{"one frees it, one has it again", 1, []deed{all(mallocs(20), mallocs(20))}, []deed{frees(0), mallocs(24)}, []outcome{{1, 1, 0, 0, 0}, {0, 1, 0, 0, 1}}},
		{"one frees another one's, who has it again, clean", 1, []deed{nil, all(mallocs(20), mallocs(20))}, []deed{frees(0), callocs(9, 2)}, []outcome{{1, 1, 0, 0, 0}, {0, 1, 0, 0, 1}}},
		{"one frees the page, one has it", 1, []deed{mallocs(64)}, []deed{frees(0), mallocs(8)}, []outcome{{1, 1, 0, 0, 0}, {0, 1, 0, 0, 1}, {0, 1, 0, 1, 0}}},
		{"one frees and has it, one frees it", 1, []deed{mallocs(20)}, []deed{all(frees(0), mallocs(20)), frees(0)}, []outcome{{1, 1, 1, 0, 0}, {1, 2, 0, 0, 0}}},
		{"both free and have it", 1, []deed{mallocs(20)}, []deed{all(frees(0), mallocs(20)), all(frees(0), mallocs(21))}, []outcome{{2, 1, 1, 0, 0}, {2, 2, 0, 0, 0}}},
		{"both have a block and end it", 1, nil, []deed{lives(20), lives(20)}, []outcome{{2, 2, 0, 0, 0}, {1, 1, 0, 1, 0}}},
		{"both have the page and end it", 1, nil, []deed{lives(64), lives(64)}, []outcome{{2, 2, 0, 0, 0}, {1, 1, 0, 1, 0}, {1, 1, 0, 0, 1}}},
		{"each is asked for what none is", 1, []deed{mallocs(20)}, []deed{all(frees(4), frees(8)), all(frees(64), frees(-8), frees(0))}, []outcome{{0, 1, 1, 0, 0}}},
	} {
		t.Run(x.name, func(t *testing.T) {
			t.Parallel()
			g := arena(t, x.pages, len(x.bodies))
			laid := fresh(t, g)
			had := map[outcome]bool{}
			states := rows(func() *crew {
				c := newCrew(t, g, laid)
				for self, d := range x.laid {
					if d != nil {
						c.laid(self, d)
					}
				}
				c.begin(x.bodies...)
				return c
			}, func(c *crew) {
				did := c.done()
				o := outcome{did.born, did.died, did.late, did.busy, did.none}
				if !slices.Contains(x.want, o) {
					t.Errorf("this is told: %+v", o)
				}
				had[o] = true
			})
			if states < 10 || len(had) != len(x.want) {
				t.Errorf("%d states, and these are told: %v", states, had)
			}
		})
	}
}

// wanders is a body that does calls of all kinds, which hang on its number and a seed. It frees blocks of any worker, of which some have ended meanwhile, and has no more than so many live at a time.
func wanders(c *crew, seed, calls, most int) deed {
	return func(w *worker, p api.Port, g geom.Geom) {
		next := chance(seed*64 + w.self)
		for i := range calls {
			size := 1 + next.below(36)
			if next.below(5) == 0 {
				size = 1 + next.below(64*min(3, g.Pages()))
			}
			takes := 12
			if len(c.l) >= most || (i/10+seed)%3 == 0 {
				takes = 0 // now more is had, now more is freed
			}
			switch what := next.below(20); {
			case what < takes/2:
				w.mallocs(p, g, size)
			case what < takes*3/4:
				w.callocs(p, g, 1+next.below(3), (size+2)/3)
			case what < takes:
				w.aligns(p, g, 1<<next.below(8), size)
			case what < 17 && len(c.l) > 0:
				w.frees(p, g, c.l[next.below(len(c.l))].at)
			case what == 17:
				w.frees(p, g, 4*next.below(16*g.Pages()+4)-8)
			case what == 18 && i%3 == 0:
				central.Flush(p, g)
			case what == 19 && i%3 == 0:
				central.Trim(p, g)
			}
		}
	}
}

// wandering is a crew of threads that wander.
func wandering(t *testing.T, g geom.Geom, seed, calls, most int) *crew {
	t.Helper()
	c := newCrew(t, g, fresh(t, g))
	c.begin(slices.Repeat([]deed{wanders(c, seed, calls, most)}, g.Threads())...)
	return c
}

// goOn steps workers to their ends, in a row by a short rule, now by single accesses, now by many of one thread, but for one that stands still; and looks at what is live ever so often.
func (c *crew) goOn(seed, often, still int) {
	c.t.Helper()
	next := chance(seed)
	var busy []int
	for i := range c.workers {
		if i != still {
			busy = append(busy, i)
		}
	}
	for n := 0; len(busy) > 0; n++ {
		at, steps := next.below(len(busy)), 1
		if next.below(4) == 0 {
			steps += next.below(60)
		}
		for range steps {
			if !c.steps(busy[at]) {
				busy = slices.Delete(busy, at, at+1)
				break
			}
		}
		if n%often == 0 {
			c.look()
		}
	}
}

// TestLongRows: P15.2 to P15.4, threads that do calls of all kinds, in rows by a short rule.
func TestLongRows(t *testing.T) {
	var did counts
	for _, x := range []struct{ pages, threads, seeds, calls, most, often int }{
		{1, 1, 20, 100, 6, 1}, {1, 2, 60, 100, 6, 1}, {2, 3, 60, 100, 8, 1}, {5, 4, 40, 100, 16, 3}, {3, 64, 2, 20, 12, 50}, {40, 8, 6, 150, 60, 20},
	} {
		g := arena(t, x.pages, x.threads)
		for seed := range x.seeds {
			c := wandering(t, g, seed, x.calls, x.most)
			c.goOn(seed, x.often, -1)
			did.add(c.done())
			c.ended()
		}
	}
	if did.born < 5000 || did.died < 5000 || did.late < 1000 || did.busy < 500 || did.none < 500 || did.vain < 5000 {
		t.Errorf("it was done too seldom: %+v", did)
	}
}

// TestStandsStill: P15.4, a thread stands still at each of its accesses while all others go on to their ends; then it ends, too.
func TestStandsStill(t *testing.T) {
	g := arena(t, 2, 3)
	for stood := range 400 {
		c := wandering(t, g, stood%7, 30, 8)
		for range stood + stood/7 {
			c.steps(1)
		}
		c.goOn(stood, 1, 1)
		for c.step(1) {
		}
		c.ended()
	}
}

// TestEndedWhereItWaits: P15.4, a thread is ended at each of its accesses: the others go on to their ends, what is live lies apart, and is freed once.
func TestEndedWhereItWaits(t *testing.T) {
	g := arena(t, 2, 3)
	for stood := range 400 {
		c := wandering(t, g, stood%7, 30, 8)
		for range stood + stood/7 {
			c.steps(2)
		}
		c.workers[2].Close()
		c.goOn(stood, 1, 2)
		c.frees()
	}
}

// TestStepsAlone: R1, a call that is stepped alone ends, wherever others stand, within as many steps as P5 allows.
func TestStepsAlone(t *testing.T) {
	for _, x := range []struct{ pages, threads int }{{1, 2}, {2, 3}, {6, 4}} {
		g := arena(t, x.pages, x.threads)
		n := x.pages + x.threads
		most := 10000 * n * n * n
		for seed := range 40 {
			c := wandering(t, g, seed, 30, 8)
			next := chance(seed)
			for range 200 {
				i := next.below(x.threads)
				for range next.below(200) {
					c.steps(i)
				}
				w := c.workers[next.below(x.threads)]
				calls, steps := w.calls, 0
				for w.calls == calls && c.steps(w.self) {
					steps++
				}
				if steps > most {
					t.Fatalf("a call has %d steps", steps)
				}
			}
			for _, w := range c.workers {
				w.Close()
			}
		}
	}
}
