package state_test

import (
	"slices"
	"testing"

	"quillet/api"
	"quillet/geom"
)

// The tests here hold P14.4, and what the calls of P14.1 to P14.3 do, to rows of the accesses of many threads.

// Bodies of few calls, each row of whose accesses can be gone through. Blocks are moved to the first grain that is the worker's.
func looks(grain int) deed {
	return func(w *worker, p api.Port, g geom.Geom) { w.looks(p, g, grain) }
}

func ends(grain int) deed {
	return func(w *worker, p api.Port, g geom.Geom) { w.ends(p, g, grain) }
}

func resizes(grain int) deed {
	return func(w *worker, p api.Port, g geom.Geom) { w.sizes(p, g, grain, 30+w.self) }
}

func moves(from int) deed {
	return func(w *worker, p api.Port, g geom.Geom) {
		if len(w.has) > 0 {
			w.moves(p, g, from, w.has[0], 40+w.self)
		}
	}
}

func bears(w *worker, p api.Port, g geom.Geom) {
	if len(w.has) > 0 {
		w.bears(p, g, w.has[0], 20+w.self)
	}
}

// all does several, one behind the other.
func all(l ...deed) deed {
	return func(w *worker, p api.Port, g geom.Geom) {
		for _, d := range l {
			d(w, p, g)
		}
	}
}

// laid begins a crew's rows with blocks that thread 0 has born at these grains.
func (c *crew) laid(grains ...int) {
	w := c.workers[0]
	mine := w.has
	w.has = slices.Clone(grains)
	c.idle = slices.DeleteFunc(c.idle, func(grain int) bool { return slices.Contains(grains, grain) })
	w.Start(func(p api.Port) {
		for range grains {
			bears(w, p, c.g)
		}
	})
	for c.step(0) {
	}
	w.has, w.did, w.answers = mine, counts{}, 0
}

// outcome is what came to pass in a row: deaths, and those of what was not live; resizes; moves, and those that were taken back.
type outcome struct{ died, late, resized, moved, aborted int }

func outcomeOf(c counts) outcome { return outcome{c.died, c.late, c.resized, c.moved, c.aborted} }

// TestRows: P14.4, two and three threads do calls, in each row of their accesses: a block is told live just if it is, no block is ended twice, and none is lost; each of these outcomes, and no other one, comes to pass in some row.
func TestRows(t *testing.T) {
	for _, x := range []struct {
		name   string
		laid   []int
		has    [][]int
		bodies []deed
		want   []outcome
	}{
		{"two end one block", []int{0}, nil, []deed{ends(0), ends(0)}, []outcome{{1, 1, 0, 0, 0}}},
		{"three end one block", []int{0}, nil, []deed{ends(0), ends(0), ends(0)}, []outcome{{1, 2, 0, 0, 0}}},
		{"one ends what is born meanwhile", nil, [][]int{{0}}, []deed{bears, ends(0)}, []outcome{{1, 0, 0, 0, 0}, {0, 1, 0, 0, 0}}},
		{"one ends it, one gives it another size", []int{0}, nil, []deed{ends(0), resizes(0)}, []outcome{{1, 0, 0, 0, 0}, {1, 0, 1, 0, 0}}},
		{"two give it other sizes", []int{0}, nil, []deed{resizes(0), resizes(0)}, []outcome{{0, 0, 1, 0, 0}, {0, 0, 2, 0, 0}}},
		{"one ends and bears it, one gives it another size", []int{0}, nil, []deed{all(ends(0), bears), resizes(0)}, []outcome{{1, 0, 0, 0, 0}, {1, 0, 1, 0, 0}}},
		{"one ends and bears it, one ends it", []int{0}, nil, []deed{all(ends(0), bears), ends(0)}, []outcome{{2, 0, 0, 0, 0}, {1, 1, 0, 0, 0}}},
		{"one moves it, one looks where it was", []int{0}, [][]int{{1}}, []deed{moves(0), looks(0)}, []outcome{{0, 0, 0, 1, 0}}},
		{"one moves it, one looks where it goes", []int{0}, [][]int{{1}}, []deed{moves(0), all(looks(1), looks(1))}, []outcome{{0, 0, 0, 1, 0}}},
		{"one moves it, two look where it goes", []int{0}, [][]int{{1}}, []deed{moves(0), looks(1), looks(1)}, []outcome{{0, 0, 0, 1, 0}}},
		{"one moves it, one ends it where it was", []int{0}, [][]int{{1}}, []deed{moves(0), ends(0)}, []outcome{{1, 0, 0, 0, 0}, {0, 1, 0, 1, 0}, {1, 0, 0, 0, 1}}},
		{"one moves it, one ends it where it goes", []int{0}, [][]int{{1}}, []deed{moves(0), ends(1)}, []outcome{{1, 0, 0, 1, 0}, {0, 1, 0, 1, 0}}},
		{"one moves it, two end it", []int{0}, [][]int{{1}}, []deed{moves(0), ends(0), ends(1)}, []outcome{{1, 1, 0, 1, 0}, {0, 2, 0, 1, 0}, {1, 1, 0, 0, 0}, {1, 1, 0, 0, 1}}},
		{"one moves it, two end it where it goes", []int{0}, [][]int{{1}}, []deed{moves(0), ends(1), ends(1)}, []outcome{{1, 1, 0, 1, 0}, {0, 2, 0, 1, 0}}},
		{"one moves it, one ends and bears it where it goes", []int{0}, [][]int{{1}}, []deed{moves(0), all(ends(1), bears)}, []outcome{{1, 0, 0, 1, 0}, {0, 1, 0, 1, 0}}},
		{"one moves it, one gives it another size where it goes", []int{0}, [][]int{{1}}, []deed{moves(0), resizes(1)}, []outcome{{0, 0, 1, 1, 0}, {0, 0, 0, 1, 0}}},
		{"one moves it, one gives it another size where it was", []int{0}, [][]int{{1}}, []deed{moves(0), resizes(0)}, []outcome{{0, 0, 1, 1, 0}, {0, 0, 0, 1, 0}, {0, 0, 1, 0, 1}}},
		{"one moves it, one moves it on", []int{0}, [][]int{{1}, {2}}, []deed{moves(0), moves(1)}, []outcome{{0, 0, 0, 2, 0}, {0, 0, 0, 1, 0}}},
		{"both move it", []int{0}, [][]int{{1}, {2}}, []deed{moves(0), moves(0)}, []outcome{{0, 0, 0, 1, 0}, {0, 0, 0, 1, 1}}},
		{"both move it, and one looks", []int{0}, [][]int{{1}, {2}}, []deed{moves(0), moves(0), looks(1)}, []outcome{{0, 0, 0, 1, 0}, {0, 0, 0, 1, 1}}},
		{"one moves it to and fro, one ends it", []int{0}, [][]int{{1}}, []deed{all(moves(0), moves(1)), ends(0)}, []outcome{{0, 1, 0, 2, 0}, {1, 0, 0, 2, 0}, {1, 0, 0, 0, 0}, {1, 0, 0, 0, 1}}},
		{"one moves it to and fro, one moves it", []int{0}, [][]int{{1}, {2}}, []deed{all(moves(0), moves(1)), moves(0)}, []outcome{{0, 0, 0, 2, 0}, {0, 0, 0, 2, 1}, {0, 0, 0, 3, 0}, {0, 0, 0, 1, 0}, {0, 0, 0, 1, 1}}},
		{"one moves it to and fro, one looks at both", []int{0}, [][]int{{1}}, []deed{all(moves(0), moves(1)), all(looks(0), looks(1))}, []outcome{{0, 0, 0, 2, 0}}},
		{"one moves a block to where another one was", []int{0, 1}, [][]int{{2}}, []deed{all(moves(0), moves(1)), ends(2)}, []outcome{{1, 0, 0, 2, 0}, {0, 1, 0, 2, 0}}},
		{"one moves it, one ends it and moves another one there", []int{0, 3}, [][]int{{1}}, []deed{moves(0), all(ends(1), moves(3))}, []outcome{{1, 0, 0, 2, 0}, {0, 1, 0, 1, 0}}},
	} {
		t.Run(x.name, func(t *testing.T) {
			t.Parallel()
			g := arena(t, 1, len(x.bodies))
			had := map[outcome]bool{}
			states := rows(func() *crew {
				c := newCrew(t, g, x.has...)
				c.laid(x.laid...)
				c.begin(x.bodies...)
				return c
			}, func(c *crew) {
				o := outcomeOf(c.done())
				if !slices.Contains(x.want, o) {
					t.Errorf("this comes to pass: %+v", o)
				}
				had[o] = true
			})
			if states < 5 || len(had) != len(x.want) {
				t.Errorf("%d states, and these come to pass: %v", states, had)
			}
		})
	}
}

// wanders is a body that does calls of all kinds, which hang on its number and a seed.
func wanders(seed, calls int) deed {
	return func(w *worker, p api.Port, g geom.Geom) {
		c := chance(seed*64 + w.self)
		for range calls {
			grain, size := c.below(8*g.Pages()), 1+c.below(64)
			switch what := c.below(8); {
			case what < 2 && len(w.has) > 0:
				w.bears(p, g, w.has[c.below(len(w.has))], size)
			case what < 4 && len(w.has) > 0:
				w.moves(p, g, grain, w.has[c.below(len(w.has))], size)
			case what == 4:
				w.ends(p, g, grain)
			case what == 5:
				w.sizes(p, g, grain, size)
			default:
				w.looks(p, g, grain)
			}
		}
	}
}

// wandering is a crew of threads that wander. The grains are theirs in turns.
func wandering(t *testing.T, g geom.Geom, seed, calls int) *crew {
	t.Helper()
	has := make([][]int, g.Threads())
	for grain := range 8 * g.Pages() {
		self := (grain + seed) % g.Threads()
		has[self] = append(has[self], grain)
	}
	c := newCrew(t, g, has...)
	c.begin(slices.Repeat([]deed{wanders(seed, calls)}, g.Threads())...)
	return c
}

// goOn steps workers to their ends, in a row by a short rule, now by single accesses, now by many of one thread, but for one that stands still.
func (c *crew) goOn(seed, still int) {
	c.t.Helper()
	next := chance(seed)
	var busy []int
	for i := range c.workers {
		if i != still {
			busy = append(busy, i)
		}
	}
	for len(busy) > 0 {
		at, steps := next.below(len(busy)), 1
		if next.below(4) == 0 {
			steps += next.below(30)
		}
		for range steps {
			if !c.step(busy[at]) {
				busy = slices.Delete(busy, at, at+1)
				break
			}
		}
	}
}

// TestLongRows: P14.4, threads that do calls of all kinds, in rows by a short rule.
func TestLongRows(t *testing.T) {
	var did counts
	for _, x := range []struct{ pages, threads, seeds, calls int }{{1, 1, 20, 200}, {1, 2, 60, 200}, {1, 3, 60, 200}, {1, 8, 30, 100}, {2, 7, 30, 100}, {8, 64, 3, 40}} {
		g := arena(t, x.pages, x.threads)
		for seed := range x.seeds {
			c := wandering(t, g, seed, x.calls)
			c.goOn(seed, -1)
			did.add(c.done())
			c.ended()
		}
	}
	for _, n := range []int{did.born, did.died, did.late, did.resized, did.moved, did.seen, did.unseen, did.settled} {
		if n < 1000 {
			t.Errorf("it was done too seldom: %+v", did)
		}
	}
	if did.aborted < 300 || did.vain < 600 {
		t.Errorf("it was in vain too seldom: %+v", did)
	}
}

// TestStandsStill: P14.4, a thread stands still at each of its accesses while all others go on to their ends; then it ends, too.
func TestStandsStill(t *testing.T) {
	g := arena(t, 1, 3)
	for stood := range 200 {
		c := wandering(t, g, stood%7, 40)
		for range stood {
			c.step(1)
		}
		c.goOn(stood, 1)
		for c.step(1) {
		}
		c.ended()
	}
}

// TestEndedWhereItWaits: P14.4, a thread is ended at each of its accesses: the others go on to their ends, and one grain is lost at most.
func TestEndedWhereItWaits(t *testing.T) {
	g := arena(t, 1, 3)
	for stood := range 200 {
		c := wandering(t, g, stood%7, 40)
		for range stood {
			c.step(2)
		}
		c.workers[2].closed = c.workers[2].Busy()
		c.workers[2].Close()
		c.goOn(stood, 2)
		c.ended()
	}
}
