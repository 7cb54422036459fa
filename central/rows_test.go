package central_test

import (
	"slices"
	"testing"

	"quillet/api"
	"quillet/geom"
)

// The tests here hold P13.5, and what the calls of P13.1 to P13.4 do, to each row of the accesses of two and three threads.

// Bodies of few calls, each row of whose accesses can be gone through.
func obtains(class int) deed {
	return func(w *worker, p api.Port, g geom.Geom) { w.obtains(p, g, class) }
}

func pages(k int) deed {
	return func(w *worker, p api.Port, g geom.Geom) { w.pages(p, g, k, 1) }
}

func releases(w *worker, p api.Port, g geom.Geom) {
	if len(w.has) > 0 {
		w.releases(p, g, w, 0)
	}
}

func trims(w *worker, p api.Port, g geom.Geom)   { w.trims(p, g) }
func flushes(w *worker, p api.Port, g geom.Geom) { w.flushes(p, g) }

// both does one behind the other.
func both(first, second deed) deed {
	return func(w *worker, p api.Port, g geom.Geom) {
		first(w, p, g)
		second(w, p, g)
	}
}

// outcome is what was told in a row: blocks and runs, ErrBusy, ErrNoMem.
type outcome struct{ had, busy, none int }

// held are the blocks that are held when a row begins, of each thread.
type held [][]block

// heldPage makes a page a slab of a class and a thread, and holds its blocks, thread by thread, as the digits tell. H is one that is home, C and B one in its owner's cache and bag, R one on the remote stack.
func heldPage(x *lab, h held, class, owner int, at string) {
	page := x.slabOf(class, owner)
	for i, where := range at {
		grain := 8*page + begins(class)[i]
		switch where {
		case 'H':
			x.home(grain)
		case 'C':
			x.cached(owner, class, grain)
		case 'B':
			x.bagged(owner, class, grain)
		case 'R':
			x.push(grain)
		default:
			h[where-'0'] = append(h[where-'0'], block{grain, class, 1})
		}
	}
}

// heldRun makes k pages a run that a thread holds.
func heldRun(x *lab, h held, k, thread int) {
	h[thread] = append(h[thread], block{8 * x.runOf(k), -1, k})
}

// goThrough steps threads in each row of their accesses, in no fewer states than least, and holds what is told to these outcomes, each of which has to come to pass in some row.
func goThrough(t *testing.T, pages, least int, lay func(x *lab, h held), want []outcome, bodies ...deed) {
	t.Helper()
	x := in(t, pages, len(bodies))
	h := make(held, len(bodies))
	if lay != nil {
		lay(x, h)
	}
	had := map[outcome]bool{}
	states := rows(func() *crew {
		c := newCrew(t, x.g, x.m)
		for self, l := range h {
			c.workers[self].has = slices.Clone(l)
		}
		c.begin(bodies...)
		return c
	}, func(c *crew) {
		did := c.done()
		o := outcome{did.had + did.runs, did.busy, did.none}
		if !slices.Contains(want, o) {
			t.Errorf("this is told: %v", o)
		}
		had[o] = true
	})
	if states < least || len(had) != len(want) {
		t.Errorf("%d states, and these are told: %v", states, had)
	}
}

// TestRows: P13.1 to P13.5, two threads do calls, in each row of their accesses.
func TestRows(t *testing.T) {
	for _, x := range []struct {
		name   string
		pages  int
		lay    func(x *lab, h held)
		bodies []deed
		want   []outcome
	}{
		{"both obtain of one class", 1, nil, []deed{obtains(3), obtains(3)}, []outcome{{2, 0, 0}, {1, 1, 0}}},
		{"both obtain of two classes", 1, nil, []deed{obtains(2), obtains(3)}, []outcome{{1, 0, 1}, {1, 1, 0}}},
		{"both obtain of two classes, of which there are pages", 2, nil, []deed{obtains(2), obtains(3)}, []outcome{{2, 0, 0}, {1, 1, 0}}},
		{"both obtain and release", 1, nil, []deed{both(obtains(3), releases), both(obtains(3), releases)}, []outcome{{2, 0, 0}, {1, 1, 0}}},
		{"both obtain and release, of two classes", 1, nil, []deed{both(obtains(2), releases), both(obtains(3), releases)}, []outcome{{2, 0, 0}, {1, 0, 1}, {1, 1, 0}}},
		{"both obtain the last block", 1, func(x *lab, h held) { heldPage(x, h, 3, 0, "0H") }, []deed{obtains(3), obtains(3)}, []outcome{{1, 0, 1}}},
		{"one releases its own, one obtains", 1, func(x *lab, h held) { heldPage(x, h, 3, 0, "00") }, []deed{releases, obtains(3)}, []outcome{{1, 0, 0}, {0, 0, 1}}},
		{"one releases another one's, one obtains", 1, func(x *lab, h held) { heldPage(x, h, 3, 1, "00") }, []deed{releases, obtains(3)}, []outcome{{1, 0, 0}, {0, 0, 1}}},
		{"one releases all, one obtains of another class", 1, func(x *lab, h held) { heldPage(x, h, 3, 0, "00") }, []deed{both(releases, releases), obtains(2)}, []outcome{{1, 0, 0}, {0, 0, 1}}},
		{"one releases and obtains, one obtains", 1, func(x *lab, h held) { heldPage(x, h, 3, 0, "00") }, []deed{both(releases, obtains(3)), obtains(3)}, []outcome{{1, 0, 1}, {1, 1, 0}}},
		{"both obtain of a remote stack", 1, func(x *lab, h held) { heldPage(x, h, 1, 0, "RRR0") }, []deed{obtains(1), obtains(1)}, []outcome{{2, 0, 0}, {1, 0, 1}}},
		{"both obtain of one that has one block", 1, func(x *lab, h held) { heldPage(x, h, 3, 0, "R0") }, []deed{obtains(3), obtains(3)}, []outcome{{1, 0, 1}}},
		{"one pushes, one obtains", 1, func(x *lab, h held) { heldPage(x, h, 2, 1, "R0") }, []deed{releases, obtains(2)}, []outcome{{1, 0, 0}}},
		{"one trims, one obtains", 1, func(x *lab, h held) { heldPage(x, h, 2, 1, "CB") }, []deed{trims, obtains(2)}, []outcome{{1, 0, 0}, {0, 1, 0}}},
		{"one trims, one obtains of another class", 1, func(x *lab, h held) { heldPage(x, h, 2, 0, "RH") }, []deed{trims, obtains(1)}, []outcome{{1, 0, 0}, {1, 1, 0}, {0, 0, 1}, {0, 1, 0}}},
		{"one trims, one releases", 1, func(x *lab, h held) { heldPage(x, h, 2, 1, "11") }, []deed{trims, both(releases, releases)}, []outcome{{0, 0, 0}}},
		{"both trim", 1, func(x *lab, h held) { heldPage(x, h, 2, 1, "CH") }, []deed{trims, trims}, []outcome{{0, 0, 0}, {0, 1, 0}}},
		{"one flushes, one trims", 1, func(x *lab, h held) { heldPage(x, h, 2, 0, "CC") }, []deed{flushes, trims}, []outcome{{0, 0, 0}}},
		{"one flushes, one obtains", 1, func(x *lab, h held) { heldPage(x, h, 2, 0, "CC") }, []deed{flushes, obtains(2)}, []outcome{{1, 0, 0}}},
		{"both look for the page", 1, nil, []deed{pages(1), pages(1)}, []outcome{{1, 0, 1}, {1, 1, 0}}},
		{"both look for pages, of which there are", 2, nil, []deed{pages(1), pages(1)}, []outcome{{2, 0, 0}, {1, 1, 0}}},
		{"one looks for pages, one obtains", 2, nil, []deed{pages(2), obtains(2)}, []outcome{{1, 0, 1}, {1, 1, 0}}},
		{"one releases the page, one looks for it", 1, func(x *lab, h held) { heldRun(x, h, 1, 0) }, []deed{releases, pages(1)}, []outcome{{1, 0, 0}, {0, 0, 1}, {0, 1, 0}}},
		{"both release a page", 2, func(x *lab, h held) { heldRun(x, h, 1, 0); heldRun(x, h, 1, 1) }, []deed{releases, releases}, []outcome{{0, 0, 0}}},
		{"both release a page, one looks for two", 2, func(x *lab, h held) { heldRun(x, h, 1, 0); heldRun(x, h, 1, 1) }, []deed{releases, both(releases, pages(2))}, []outcome{{1, 0, 0}, {0, 0, 1}, {0, 1, 0}}},
		{"one releases the page, one obtains", 1, func(x *lab, h held) { heldRun(x, h, 1, 0) }, []deed{releases, obtains(1)}, []outcome{{1, 0, 0}, {0, 0, 1}, {0, 1, 0}}},
		{"both have the page in turns", 1, nil, []deed{both(pages(1), releases), both(pages(1), releases)}, []outcome{{2, 0, 0}, {1, 0, 1}, {1, 1, 0}}},
	} {
		t.Run(x.name, func(t *testing.T) {
			t.Parallel()
			goThrough(t, x.pages, 100, x.lay, x.want, x.bodies...)
		})
	}
}

// TestRowsOfThree: P13.1 to P13.5, three threads do calls, in each row of their accesses.
func TestRowsOfThree(t *testing.T) {
	for _, x := range []struct {
		name   string
		pages  int
		lay    func(x *lab, h held)
		bodies []deed
		want   []outcome
	}{
		{"two release, one obtains", 1, func(x *lab, h held) { heldPage(x, h, 3, 0, "01") }, []deed{releases, releases, obtains(3)}, []outcome{{1, 0, 0}, {0, 0, 1}}},
		{"two release, one obtains of another class", 1, func(x *lab, h held) { heldPage(x, h, 3, 0, "01") }, []deed{releases, releases, obtains(2)}, []outcome{{1, 0, 0}, {0, 0, 1}}},
		{"all obtain what is there", 1, func(x *lab, h held) { heldPage(x, h, 1, 0, "CBHH") }, []deed{obtains(1), obtains(1), obtains(1)}, []outcome{{3, 0, 0}}},
		{"all look for a page", 2, nil, []deed{pages(1), pages(1), pages(1)}, []outcome{{2, 0, 1}, {2, 1, 0}, {1, 2, 0}}},
	} {
		t.Run(x.name, func(t *testing.T) {
			t.Parallel()
			goThrough(t, x.pages, 100, x.lay, x.want, x.bodies...)
		})
	}
}
