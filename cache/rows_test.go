package cache_test

import (
	"slices"
	"strconv"
	"testing"

	"quillet/api"
	"quillet/cache"
	"quillet/geom"
	"quillet/mem"
	"quillet/port"
	"quillet/thread"
)

// The tests here hold P12.3 to rows of the accesses of many threads.

// worker is a thread of a crew that does one body.
type worker struct {
	*thread.Thread
	self    int
	has     []uint64 // the items that it holds
	did     counts
	answers []uint64
	fault   string // what a call has done that it ought not to have
}

// counts is how often each thing was done: items that were put, that found no slot, that were taken; Takes of none; CASes that were not done.
type counts struct{ put, full, taken, none, vain int }

func (c *counts) add(o counts) {
	c.put += o.put
	c.full += o.full
	c.taken += o.taken
	c.none += o.none
	c.vain += o.vain
}

// deed is what a worker does.
type deed func(w *worker, p api.Port, g geom.Geom)

// puts puts the item that it holds longest; it holds that till the call has ended, and further on, if there was no slot.
func (w *worker) puts(p api.Port, g geom.Geom, class int) {
	if !cache.Put(p, g, class, w.has[0]) {
		w.did.full++
		return
	}
	w.did.put++
	w.has = w.has[1:]
}

// takes takes an item of the own cache, or of another one.
func (w *worker) takes(p api.Port, g geom.Geom, thread, class int) {
	var item uint64
	var ok bool
	if thread == w.self {
		item, ok = cache.Take(p, g, class)
	} else {
		item, ok = cache.Steal(p, g, thread, class)
	}
	if ok != (item != 0) && w.fault == "" { // a test ends in its own goroutine alone
		w.fault = "thread " + strconv.Itoa(w.self) + " took " + strconv.FormatUint(item, 10)
	}
	if !ok {
		w.did.none++
		return
	}
	w.did.taken++
	w.has = append(w.has, item)
}

// crew are workers that share a memory.
type crew struct {
	t       *testing.T
	g       geom.Geom
	m       *mem.Memory
	workers []*worker
	items   int // they are numbered from 1 on
}

// newCrew is a crew in a memory of zeros, each of whose workers holds some items.
func newCrew(t *testing.T, g geom.Geom, held ...int) *crew {
	t.Helper()
	c := &crew{t: t, g: g, m: zeros(t, g)}
	for self := range g.Threads() {
		w := &worker{Thread: thread.New(self), self: self}
		for range held[self] {
			c.items++
			w.has = append(w.has, uint64(c.items))
		}
		c.workers = append(c.workers, w)
	}
	return c
}

// begin begins each worker's body.
func (c *crew) begin(bodies ...deed) {
	for self, b := range bodies {
		w := c.workers[self]
		w.Start(func(p api.Port) { b(w, p, c.g) })
	}
	c.look()
}

// step grants a worker its pending access, and looks at where all items are then; false, if the worker has ended.
func (c *crew) step(i int) bool {
	c.t.Helper()
	w := c.workers[i]
	a, ok := w.Pending()
	if !ok {
		return false
	}
	if a.Kind == api.CAS && a.B != 0 && !c.isSlotOf(i, a.At) {
		c.t.Fatalf("thread %d puts an item into another one's cache", i)
	}
	v, _ := c.m.Do(a)
	if a.Kind == api.CAS && v == 0 {
		w.did.vain++
	}
	w.answers = append(w.answers, v)
	w.Grant(v)
	if w.fault != "" {
		c.t.Fatal(w.fault)
	}
	c.look()
	return true
}

// isSlotOf asks whether a word is a slot of a thread's cache.
func (c *crew) isSlotOf(thread, at int) bool {
	first := c.g.Cache(thread, 0, 0)
	return at >= first && at < first+4*slots
}

// look holds each item to being in one place: in a slot, or held.
func (c *crew) look() {
	c.t.Helper()
	places := make([]int, c.items+1)
	first := c.g.Cache(0, 0, 0)
	for at := first; at < first+c.g.Threads()*4*slots; at++ {
		places[c.m.Word(at)]++
	}
	for _, w := range c.workers {
		for _, item := range w.has {
			places[item]++
		}
	}
	for item, n := range places {
		if item > 0 && n != 1 {
			c.t.Fatalf("item %d is in %d places", item, n)
		}
	}
}

// done is how often each thing was done by all.
func (c *crew) done() counts {
	var all counts
	for _, w := range c.workers {
		all.add(w.did)
	}
	return all
}

// ended holds a crew, all of which do nothing any more, to this: what is in the caches is taken by one who is alone, and then nothing is there.
func (c *crew) ended() {
	c.t.Helper()
	p := port.New(c.m, 0)
	var all []uint64
	for thread := range c.g.Threads() {
		for class := range 4 {
			n := 0
			for {
				item, ok := cache.Steal(p, c.g, thread, class)
				if !ok {
					break
				}
				all = append(all, item)
				n++
			}
			if n > slots {
				c.t.Fatalf("%d items are in one cache", n)
			}
		}
	}
	for _, w := range c.workers {
		all = append(all, w.has...)
	}
	slices.Sort(all)
	for i, item := range all {
		if item != uint64(i)+1 {
			c.t.Fatalf("the items are %v in the end", all)
		}
	}
	if len(all) != c.items || !mem.Same(c.m, zeros(c.t, c.g)) {
		c.t.Fatalf("of %d items there are %d in the end, or another word is touched", c.items, len(all))
	}
}

// busy is the first worker from i on that has not ended; -1, if all have.
func (c *crew) busy(i int) int {
	for ; i < len(c.workers); i++ {
		if c.workers[i].Busy() {
			return i
		}
	}
	return -1
}

// state is what all that a crew may still do, and be held to, hangs on: what is in the memory, and what each worker was answered so far, told as one number.
func (c *crew) state() uint64 {
	sum := uint64(14695981039346656037)
	mix := func(l ...uint64) {
		for _, w := range l {
			sum = (sum ^ w ^ w>>29) * 1099511628211
			sum ^= sum >> 32
		}
		sum = sum*31 + uint64(len(l))
	}
	for at := range c.m.Words() {
		mix(c.m.Word(at))
	}
	for _, w := range c.workers {
		mix(w.answers...)
	}
	return sum
}

// rows steps crews in each row that there is, and is how many states these were in. Each row is the one before, but for its end, where the last worker that can give way to a later one does; one that comes to a state in which another row was is left there, as both go on alike.
func rows(begin func() *crew, ended func(c *crew)) int {
	met := map[uint64]bool{}
	var row []int
	last := 0 // where the row parts from the one before
	for {
		c := begin()
		var later []int // who could have been stepped in place of each of the row's
		for at := 0; c.busy(0) >= 0; at++ {
			if at == len(row) {
				row = append(row, c.busy(0))
			}
			later = append(later, c.busy(row[at]+1))
			c.step(row[at])
			state := c.state()
			if at >= last && met[state] {
				break
			}
			met[state] = true
		}
		if c.busy(0) < 0 {
			ended(c)
			c.ended()
		}
		for _, w := range c.workers {
			w.Close()
		}
		last = len(later) - 1
		for last >= 0 && later[last] < 0 {
			last--
		}
		if last < 0 {
			return len(met)
		}
		row = append(row[:last], later[last])
	}
}

// Bodies of few calls, each row of whose accesses can be gone through. Each is of class 1.
func puts(times int) deed {
	return func(w *worker, p api.Port, g geom.Geom) {
		for range times {
			if len(w.has) > 0 {
				w.puts(p, g, 1)
			}
		}
	}
}

func takes(thread, times int) deed {
	return func(w *worker, p api.Port, g geom.Geom) {
		for range times {
			w.takes(p, g, thread, 1)
		}
	}
}

// both does one behind the other.
func both(first, second deed) deed {
	return func(w *worker, p api.Port, g geom.Geom) {
		first(w, p, g)
		second(w, p, g)
	}
}

// full ends a crew's rows with the cache of thread 0 that holds as many of its items.
func full(items int) func(c *crew) {
	return func(c *crew) {
		w := c.workers[0]
		p := port.New(c.m, 0)
		for range items {
			w.puts(p, c.g, 1)
		}
		w.did = counts{}
	}
}

// TestRows: P12.3, two and three threads put, take and steal, in each row of their accesses: each item is in one place behind each of them; and as many are taken in all as are told, each number in some row.
func TestRows(t *testing.T) {
	for _, x := range []struct {
		name   string
		held   []int // how many items each thread has
		put    int   // how many of thread 0's are in its cache ahead of that
		bodies []deed
		taken  []int
		least  int // how many states there are at least
	}{
		{"two steal one item", []int{1, 0, 0}, 1, []deed{nil, takes(0, 1), takes(0, 1)}, []int{1}, 10},
		{"two steal two items", []int{2, 0, 0}, 2, []deed{nil, takes(0, 2), takes(0, 1)}, []int{2}, 20},
		{"one takes, one steals", []int{2, 0}, 2, []deed{takes(0, 2), takes(0, 2)}, []int{2}, 30},
		{"one puts, one steals", []int{3, 0}, 0, []deed{puts(3), takes(0, 2)}, []int{0, 1, 2}, 60},
		{"one puts into a full cache, one steals", []int{4, 0}, 2, []deed{puts(2), takes(0, 3)}, []int{2, 3}, 60},
		{"one puts and takes, one steals", []int{3, 0}, 1, []deed{both(puts(2), takes(0, 2)), takes(0, 2)}, []int{2, 3}, 100},
		{"one takes and puts, one steals", []int{2, 0}, 2, []deed{both(takes(0, 1), puts(2)), takes(0, 2)}, []int{2, 3}, 60},
		{"what comes back into its slot is stolen once", []int{1, 0}, 1, []deed{both(takes(0, 1), both(puts(1), both(takes(0, 1), puts(1)))), takes(0, 2)}, []int{1, 2, 3}, 60},
		{"each steals from the other", []int{2, 2}, 0, []deed{both(puts(2), takes(1, 2)), both(puts(2), takes(0, 2))}, []int{2, 3, 4}, 300},
		{"each puts what it has stolen", []int{1, 1}, 0, []deed{both(puts(1), both(takes(1, 1), puts(1))), both(puts(1), both(takes(0, 1), puts(1)))}, []int{1, 2}, 50},
		{"one puts, two steal", []int{2, 0, 0}, 0, []deed{puts(2), takes(0, 1), takes(0, 2)}, []int{0, 1, 2}, 100},
		{"one puts and takes, two steal", []int{2, 0, 0}, 1, []deed{both(puts(1), takes(0, 1)), takes(0, 2), takes(0, 1)}, []int{2}, 200},
		{"one takes and puts, two steal and put", []int{2, 0, 0}, 2, []deed{both(takes(0, 1), puts(1)), both(takes(0, 1), puts(1)), both(takes(0, 1), puts(1))}, []int{2, 3}, 300},
	} {
		t.Run(x.name, func(t *testing.T) {
			t.Parallel()
			g := arena(t, 1, len(x.held))
			had := map[int]bool{}
			states := rows(func() *crew {
				c := newCrew(t, g, x.held...)
				full(x.put)(c)
				for self, b := range x.bodies {
					if b != nil {
						w := c.workers[self]
						w.Start(func(p api.Port) { b(w, p, c.g) })
					}
				}
				c.look()
				return c
			}, func(c *crew) {
				n := c.done().taken
				if !slices.Contains(x.taken, n) {
					t.Fatalf("%d items are taken", n)
				}
				had[n] = true
			})
			if states < x.least || len(had) != len(x.taken) {
				t.Errorf("%d states, and %v items are taken", states, had)
			}
		})
	}
}

// wanders is a body that does calls of all kinds, which hang on its number and a seed.
func wanders(seed, calls int) deed {
	return func(w *worker, p api.Port, g geom.Geom) {
		c := chance(seed*64 + w.self)
		for range calls {
			class := c.below(4) / (1 + seed%3) // now all classes, now few
			switch what := c.below(8); {
			case what < 4 && len(w.has) > 0:
				w.puts(p, g, class)
			case what < 6:
				w.takes(p, g, w.self, class)
			default:
				w.takes(p, g, c.below(g.Threads()), class)
			}
		}
	}
}

// wandering is a crew of threads that wander.
func wandering(t *testing.T, g geom.Geom, seed, calls int) *crew {
	t.Helper()
	c := newCrew(t, g, slices.Repeat([]int{5}, g.Threads())...)
	c.begin(slices.Repeat([]deed{wanders(seed, calls)}, g.Threads())...)
	return c
}

// goOn steps workers to their ends, in a row by a short rule, now by single accesses, now by many of one thread, but for one that stands still.
func (c *crew) goOn(seed, still int) {
	c.t.Helper()
	next := chance(seed)
	var busy []int
	for i := range c.workers {
		if i != still {
			busy = append(busy, i)
		}
	}
	for len(busy) > 0 {
		at, steps := next.below(len(busy)), 1
		if next.below(4) == 0 {
			steps += next.below(30)
		}
		for range steps {
			if !c.step(busy[at]) {
				busy = slices.Delete(busy, at, at+1)
				break
			}
		}
	}
}

// TestLongRows: P12.3, threads that do calls of all kinds, in rows by a short rule: each item is in one place.
func TestLongRows(t *testing.T) {
	var did counts
	for _, x := range []struct{ threads, seeds, calls int }{{1, 30, 200}, {2, 60, 200}, {3, 60, 200}, {7, 20, 200}, {64, 2, 60}} {
		g := arena(t, 1, x.threads)
		for seed := range x.seeds {
			c := wandering(t, g, seed, x.calls)
			c.goOn(seed, -1)
			did.add(c.done())
			c.ended()
		}
	}
	if did.put < 10000 || did.full < 1000 || did.taken < 10000 || did.none < 5000 || did.vain < 5000 {
		t.Errorf("it was done too seldom: %+v", did)
	}
}

// TestStandsStill: P12.3, a thread stands still at each of its accesses while all others go on to their ends; then it ends, too.
func TestStandsStill(t *testing.T) {
	g := arena(t, 1, 3)
	for stood := range 150 {
		c := wandering(t, g, stood%7, 40)
		for range stood {
			c.step(1)
		}
		c.goOn(stood, 1)
		for c.step(1) {
		}
		c.ended()
	}
}

// TestEndedWhereItWaits: P12.3, a thread is ended at each of its accesses: the others go on to their ends, and each item stays in one place.
func TestEndedWhereItWaits(t *testing.T) {
	g := arena(t, 1, 3)
	for stood := range 150 {
		c := wandering(t, g, stood%7, 40)
		for range stood {
			c.step(2)
		}
		c.workers[2].Close()
		c.goOn(stood, 2)
		c.ended()
	}
}
