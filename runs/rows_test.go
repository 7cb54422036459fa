package runs_test

import (
	"slices"
	"strconv"
	"testing"

	"quillet/api"
	"quillet/geom"
	"quillet/lock"
	"quillet/mem"
	"quillet/port"
	"quillet/runs"
	"quillet/thread"
)

// The tests here hold P10.5, and Mark of P10.4, to rows of the accesses of several threads: who holds the lock does all calls, the others mark.

// marking does a call in a layout, for each used run and each access of that call, and marks the run ahead of that access; behind the last one, too. The call is handed the layout with the mark, and which run has it, and answers what is to be held behind both. It is how often that was.
func marking(t *testing.T, g geom.Geom, into *mem.Memory, l layout, call func(x *lab, marked layout, i int) func()) int {
	t.Helper()
	n := 0
	for i, r := range l {
		if r.kind != used {
			continue
		}
		page := l.first(i)
		marked, _ := l.marked(page, r.len)
		for ahead, met := 0, true; met; ahead++ {
			x := in(t, g, into, l)
			met = false
			mark := func() {
				if !runs.Mark(port.New(x.m, 1), g, page, r.len) {
					t.Fatalf("%v: Mark(%d, %d) ahead of access %d: false", l, page, r.len, ahead)
				}
			}
			x.p.meanwhile = func(n int) {
				if n == ahead {
					met = true
					mark()
				}
			}
			held := call(x, marked, i)
			if !met {
				mark()
			}
			held()
			n++
		}
	}
	return n
}

// inLayouts goes through all layouts of few pages.
func inLayouts(t *testing.T, pages int, each func(g geom.Geom, into *mem.Memory, l layout)) {
	t.Helper()
	for n := 1; n <= pages; n++ {
		g := arena(t, n, 2)
		into := unlike(t, g)
		for _, l := range layouts(n) {
			each(g, into, l)
		}
	}
}

// TestMarkedWhileAllocated: P10.2, P10.4, P10.5, a used run is marked ahead of each access of each Alloc: both do what they do alone.
func TestMarkedWhileAllocated(t *testing.T) {
	n := 0
	inLayouts(t, 5, func(g geom.Geom, into *mem.Memory, l layout) {
		for k := 1; k <= g.Pages(); k++ {
			n += marking(t, g, into, l, func(x *lab, marked layout, _ int) func() {
				left, page, ok := marked.alloc(k, k%2+1)
				got, is := runs.Alloc(x.p, g, k, k%2+1)
				return func() {
					if got != page || is != ok {
						t.Fatalf("%v: Alloc(%d, %d) = %d, %v, want %d, %v", l, k, k%2+1, got, is, page, ok)
					}
					isLaid(t, "Alloc, and Mark", x.m, into, g, left)
				}
			})
		}
	})
	if n < 5000 {
		t.Errorf("%d marks", n)
	}
}

// TestMarkedWhileItIsAllocated: P10.2, P10.4, P10.5, the run that is had is marked ahead of each access of its own Alloc: as Mark answers, it is deferred, or is not, and nothing of the Alloc is lost.
func TestMarkedWhileItIsAllocated(t *testing.T) {
	inLayouts(t, 5, func(g geom.Geom, into *mem.Memory, l layout) {
		for k := 1; k <= g.Pages(); k++ {
			left, page, ok := l.alloc(k, 1)
			for ahead, met := 0, ok; met; ahead++ {
				x := in(t, g, into, l)
				x.l = left
				met = false
				x.p.meanwhile = func(n int) {
					if n == ahead {
						met = true
						if runs.Mark(port.New(x.m, 1), g, page, k) {
							x.l, _ = left.marked(page, k)
						}
					}
				}
				if got, is := runs.Alloc(x.p, g, k, 1); got != page || !is {
					t.Fatalf("%v: Alloc(%d, 1) = %d, %v, want %d", l, k, got, is, page)
				}
				isLaid(t, "Alloc, and Mark", x.m, into, g, x.l)
			}
		}
	})
}

// TestMarkedWhileFreed: P10.3 to P10.5, a used run is marked ahead of each access of each Free of another one: both do what they do alone.
func TestMarkedWhileFreed(t *testing.T) {
	n := 0
	inLayouts(t, 5, func(g geom.Geom, into *mem.Memory, l layout) {
		for other, r := range l {
			page := l.first(other)
			n += marking(t, g, into, l, func(x *lab, marked layout, i int) func() {
				if i == other {
					return func() {} // that is none of another one
				}
				left, ok := marked.freed(page, r.len)
				got := runs.Free(x.p, g, page, r.len)
				return func() {
					if got != ok {
						t.Fatalf("%v: Free(%d, %d) = %v, want %v", l, page, r.len, got, ok)
					}
					isLaid(t, "Free, and Mark", x.m, into, g, left)
				}
			})
		}
	})
	if n < 5000 {
		t.Errorf("%d marks", n)
	}
}

// TestMarkedWhileItIsFreed: P10.3 to P10.5, a run is marked ahead of each access of its own Free, which is one too many: it is free, once.
func TestMarkedWhileItIsFreed(t *testing.T) {
	inLayouts(t, 5, func(g geom.Geom, into *mem.Memory, l layout) {
		for i, r := range l {
			page := l.first(i)
			left, _ := l.freed(page, r.len)
			for ahead, met := 0, r.kind == used; met; ahead++ {
				x := in(t, g, into, l)
				met = false
				x.p.meanwhile = func(n int) {
					if n == ahead {
						met = true
						runs.Mark(port.New(x.m, 1), g, page, r.len)
					}
				}
				if !runs.Free(x.p, g, page, r.len) || runs.Mark(x.p, g, page, r.len) {
					t.Fatalf("%v: Free(%d, %d) is false, or Mark behind it is true", l, page, r.len)
				}
				isLaid(t, "Free, and Mark", x.m, into, g, left)
			}
		}
	})
}

// TestMarkedWhileCollected: P10.4, P10.5, a used run is marked ahead of each access of a Collect: this one frees it, or the next one.
func TestMarkedWhileCollected(t *testing.T) {
	var soon, late int
	inLayouts(t, 5, func(g geom.Geom, into *mem.Memory, l layout) {
		others, few := l.collected()
		marking(t, g, into, l, func(x *lab, marked layout, i int) func() {
			all, most := marked.collected()
			n := runs.Collect(x.p, g)
			return func() {
				switch n {
				case most:
					x.l = all
					soon++
				case few:
					x.l, _ = others.marked(l.first(i), l[i].len)
					late++
				default:
					t.Fatalf("%v: Collect = %d, of %d", l, n, most)
				}
				x.p.meanwhile, x.p.seen = nil, nil
				isLaid(t, "Collect, and Mark", x.m, into, g, x.l)
				if again := x.collect(); n+again != most {
					t.Fatalf("%v: Collect = %d, then %d, of %d", l, n, again, most)
				}
			}
		})
	})
	if soon < 1000 || late < 1000 {
		t.Errorf("%d times at once, %d times later", soon, late)
	}
}

// parsed is the layout of a memory, and whether that has one: its words and bins are as the chapter says, and no two free runs are side by side.
func parsed(m *mem.Memory, g geom.Geom) (layout, bool) {
	var l layout
	for page := 0; page < g.Pages(); {
		w := m.Word(g.Page(page))
		r := run{kind: int(w & 7), len: int(w >> 3 & 0x3ff)}
		if r.len < 1 || r.kind != free && r.kind != used && r.kind != later {
			return l, false
		}
		l = append(l, r)
		page += r.len
	}
	ok := l.pages() == g.Pages() && l.same(l.whole())
	for page, w := range l.words() {
		ok = ok && m.Word(g.Page(page)) == w
	}
	for b, n := range l.bins() {
		ok = ok && m.Word(g.Bin(b)) == n
	}
	return l, ok
}

// held is a run that a worker has.
type held struct{ page, k int }

// worker is a thread of a crew that does one body.
type worker struct {
	*thread.Thread
	self  int
	of    *crew
	has   []held
	marks int // how many runs it has marked while another one held the lock
	fault string
}

// crew are workers that share a memory.
type crew struct {
	t       *testing.T
	g       geom.Geom
	m       *mem.Memory
	workers []*worker
}

// begun is a crew, each of which has begun its body, in an arena as new.
func begun(t *testing.T, g geom.Geom, bodies ...func(w *worker, p api.Port)) *crew {
	t.Helper()
	c := &crew{t: t, g: g, m: laid(zeros(t, g), g, layout{f(g.Pages())})}
	for self, body := range bodies {
		w := &worker{Thread: thread.New(self), self: self, of: c}
		c.workers = append(c.workers, w)
		w.Start(func(p api.Port) { body(w, p) })
	}
	return c
}

// faulty keeps the first fault: a test ends in its own goroutine alone.
func (w *worker) faulty(what string, page, k int) {
	if w.fault == "" {
		w.fault = "thread " + strconv.Itoa(w.self) + ": " + what + ": " + strconv.Itoa(page) + ", of " + strconv.Itoa(k)
	}
}

// gets has a run, if the worker gets the lock, and there is one. The lock is dropped behind that.
func (w *worker) gets(p api.Port, k, a int, collects bool) {
	g := w.of.g
	if !lock.Try(p, g) {
		return
	}
	if collects {
		runs.Collect(p, g)
	}
	if page, ok := runs.Alloc(p, g, k, a); ok {
		if page%a != 0 || page < 0 || page+k > g.Pages() {
			w.faulty("a run is where it ought not to be", page, k)
		}
		for _, o := range w.of.workers {
			for _, h := range o.has {
				if page < h.page+h.k && h.page < page+k {
					w.faulty("a run lies on another one", page, k)
				}
			}
		}
		w.has = append(w.has, held{page, k})
	}
	lock.Drop(p, g)
}

// drops gives the worker's run back: it is freed, if it is to be and the worker gets the lock, else marked.
func (w *worker) drops(p api.Port, i int, frees bool) {
	g, h := w.of.g, w.has[i]
	w.has = slices.Delete(w.has, i, i+1)
	if !frees || !lock.Try(p, g) {
		if lock.Holder(w.of.m.Word(g.Lock())) >= 0 {
			w.marks++
		}
		if !runs.Mark(p, g, h.page, h.k) {
			w.faulty("a run is not marked", h.page, h.k)
		}
		return
	}
	if !runs.Free(p, g, h.page, h.k) {
		w.faulty("a run is not freed", h.page, h.k)
	}
	lock.Drop(p, g)
}

// wanders is a body that has runs and gives them back, which hangs on its number and a seed; none is left at its end.
func wanders(seed, calls int) func(w *worker, p api.Port) {
	return func(w *worker, p api.Port) {
		c := chance(seed*64 + w.self)
		for range calls {
			if len(w.has) > 0 && c.below(2) == 0 {
				w.drops(p, c.below(len(w.has)), c.below(3) == 0)
			} else {
				w.gets(p, 1+c.below(1+c.below(4)), 1+c.below(2), c.below(2) == 0)
			}
		}
		for len(w.has) > 0 {
			w.drops(p, c.below(len(w.has)), c.below(2) == 0)
		}
	}
}

// step grants a worker its pending access, and looks at the memory when nobody holds the lock; false, if the worker has ended.
func (c *crew) step(i int) bool {
	c.t.Helper()
	w := c.workers[i]
	a, ok := w.Pending()
	if !ok {
		return false
	}
	v, _ := c.m.Do(a)
	w.Grant(v)
	if w.fault != "" {
		c.t.Fatal(w.fault)
	}
	if c.m.Word(c.g.Lock()) == 0 {
		c.look()
	}
	return true
}

// look holds the memory to having a layout in which each run that a worker has is a used one.
func (c *crew) look() {
	c.t.Helper()
	l, ok := parsed(c.m, c.g)
	if !ok {
		c.t.Fatalf("there is no layout: %v", l)
	}
	for _, w := range c.workers {
		for _, h := range w.has {
			if l.find(h.page, h.k, used) < 0 {
				c.t.Fatalf("thread %d has %v, which is no used run of %v", w.self, h, l)
			}
		}
	}
}

// ended holds a crew, all of which have ended, to all pages being one free run, when what was marked is collected.
func (c *crew) ended() {
	c.t.Helper()
	for _, w := range c.workers {
		if w.Busy() || len(w.has) > 0 {
			c.t.Fatalf("thread %d has not ended, or has %v", w.self, w.has)
		}
	}
	runs.Collect(port.New(c.m, 0), c.g)
	if l, ok := parsed(c.m, c.g); !ok || !l.same(layout{f(c.g.Pages())}) {
		c.t.Fatalf("behind all there are %v", l)
	}
}

// goOn steps workers to their ends, in a row by a short rule, now by single accesses, now by many of one thread; but for one that stands still.
func (c *crew) goOn(seed, still int) {
	c.t.Helper()
	next := chance(seed)
	var busy []int
	for i := range c.workers {
		if i != still {
			busy = append(busy, i)
		}
	}
	for len(busy) > 0 {
		at, steps := next.below(len(busy)), 1
		if next.below(3) == 0 {
			steps += next.below(40)
		}
		for range steps {
			if !c.step(busy[at]) {
				busy = slices.Delete(busy, at, at+1)
				break
			}
		}
	}
}

// TestThreads: P10.5, threads that have runs under the lock, and give them back with it or without, in rows by a short rule: no two runs lie on one another, and all pages are one free run behind all.
func TestThreads(t *testing.T) {
	marks := 0
	for _, x := range []struct{ pages, threads, seeds, calls int }{
		{1, 2, 50, 60}, {3, 2, 200, 60}, {8, 3, 200, 60}, {20, 4, 100, 80}, {64, 64, 2, 12},
	} {
		g := arena(t, x.pages, x.threads)
		for seed := range x.seeds {
			c := begun(t, g, slices.Repeat([]func(*worker, api.Port){wanders(seed, x.calls)}, x.threads)...)
			c.goOn(seed, -1)
			c.ended()
			for _, w := range c.workers {
				marks += w.marks
			}
		}
	}
	if marks < 500 {
		t.Errorf("%d runs are marked while another one holds the lock", marks)
	}
}

// TestStandsStill: P10.4, P10.5, a thread stands still at each of its accesses, with the lock or without, while all others go on to their ends, and give back what they have; then it ends, too.
func TestStandsStill(t *testing.T) {
	g := arena(t, 8, 3)
	had, marks := 0, 0
	for stood := range 300 {
		still := stood % 3
		first := (still + 1) % 3
		body := wanders(stood%5, 30)
		c := begun(t, g, body, body, body)
		for n := 0; n < 60 || c.m.Word(g.Lock()) != 0; n++ {
			c.step(first)
		}
		for range stood {
			c.step(still)
		}
		c.goOn(stood, still)
		if c.m.Word(g.Lock()) != 0 {
			had++
		}
		for c.step(still) {
		}
		c.ended()
		for _, w := range c.workers {
			marks += w.marks
		}
	}
	if had < 100 || marks < 200 {
		t.Errorf("%d of them stood still with the lock, %d runs were marked then", had, marks)
	}
}
