package bag_test

import (
	"slices"
	"strconv"
	"testing"

	"quillet/api"
	"quillet/bag"
	"quillet/geom"
	"quillet/mem"
	"quillet/thread"
)

// The tests here hold P9.4, and what the calls of P9.1 to P9.3 do, to rows of the accesses of many threads. No two items that they put are the same; an item's class is what it has above the lowest 32 bits.

// itemOf is an item of a class; classOf the counterpart.
func itemOf(class int, n uint64) uint64 { return uint64(class)<<32 | n }
func classOf(item uint64) int           { return int(item >> 32) }

// worker is a thread of a crew that does one body.
type worker struct {
	*thread.Thread
	self    int
	of      *crew
	taking  bool     // a Take is under way
	fresh   bool     // it has had no access so far
	due     []uint64 // items that it may not miss, if they stay
	adding  uint64   // the item of the Add that is under way; 0, if none is
	put     []uint64
	got     []uint64
	missed  int // how many Takes have told none
	refused int // how many Adds have told false
	answers []uint64
	fault   string // what a call has done that it ought not to have
}

// body is what a worker does.
type body func(w *worker, p api.Port, g geom.Geom)

// faulty keeps the first fault: a test ends in its own goroutine alone.
func (w *worker) faulty(what string, item uint64) {
	if w.fault == "" {
		w.fault = "thread " + strconv.Itoa(w.self) + ": " + what + ": " + strconv.FormatUint(item, 16)
	}
}

// place is where a list has its first place without an item; beyond all of them, if it has none.
func place(l []node) int {
	for i, n := range l {
		for j, item := range n.items {
			if item == 0 {
				return 8*i + j
			}
		}
	}
	return 8 * len(l)
}

// adds puts an item. A place that has none ahead of the Add has none till its own thread puts one there: so there has to be no further node, and none of the places ahead is skipped.
func (w *worker) adds(p api.Port, g geom.Geom, item uint64) {
	class := classOf(item)
	was, _ := listed(w.of.m, g, w.self, class)
	w.adding = item
	done := bag.Add(p, g, class, item)
	w.adding = 0
	is, _ := listed(w.of.m, g, w.self, class)
	open := place(was)
	if len(is) != len(was) && open < 8*len(was) {
		w.faulty("there is a further node", item)
	}
	for i, n := range is {
		if j := slices.Index(n.items[:], item); j >= 0 && len(is) == len(was) && 8*i+j > open {
			w.faulty("a place is skipped", item)
		}
	}
	if !done {
		w.refused++
		return
	}
	w.put = append(w.put, item)
}

// takes takes an item; 0, if none was told. Of those that were due none may have stayed then.
func (w *worker) takes(p api.Port, g geom.Geom, class int) uint64 {
	w.taking, w.fresh, w.due = true, true, nil
	item, ok := bag.Take(p, g, class)
	w.taking = false
	if w.of.m.Word(g.Hazard(w.self, 0)) != 0 || w.of.m.Word(g.Hazard(w.self, 1)) != 0 {
		w.faulty("a hazard is left behind", item)
	}
	if ok {
		w.got = append(w.got, item)
		if classOf(item) != class {
			w.faulty("an item of another class is told", item)
		}
		return item
	}
	w.missed++
	for _, there := range items(w.of.m, g, class) {
		if slices.Contains(w.due, there) {
			w.faulty("an item is missed", there)
		}
	}
	return 0
}

// prunes prunes. A node that had none ahead of that is not there any more.
func (w *worker) prunes(p api.Port, g geom.Geom, class int) {
	was, _ := listed(w.of.m, g, w.self, class)
	bag.Prune(p, g, class)
	is, _ := listed(w.of.m, g, w.self, class)
	for _, n := range was {
		stays := slices.ContainsFunc(is, func(o node) bool { return o.idx == n.idx })
		if n.items == [8]uint64{} && stays {
			w.faulty("a node without items is left", uint64(n.idx))
		}
	}
}

// crew are workers that share a memory.
type crew struct {
	t       *testing.T
	g       geom.Geom
	m       *mem.Memory
	there   []uint64 // the items that were there at the beginning
	counted []uint64 // those that are counted by Adds
	adds    [api.Classes]uint64
	nodes   []int // all that there are, in their row
	workers []*worker
}

// begun is a crew, each of which has begun its body, in a copy of a memory whose words were laid by hand.
func begun(t *testing.T, g geom.Geom, laid *mem.Memory, bodies ...body) *crew {
	t.Helper()
	c := &crew{t: t, g: g, m: laid.Copy()}
	for class := range api.Classes {
		c.there = append(c.there, items(c.m, g, class)...)
		c.adds[class] = c.m.Word(g.Adds(class))
	}
	c.counted = slices.Clone(c.there)
	c.nodes = c.apart()
	for self, b := range bodies {
		w := &worker{Thread: thread.New(self), self: self, of: c}
		c.workers = append(c.workers, w)
		w.Start(func(p api.Port) { b(w, p, g) })
	}
	return c
}

// step grants a worker its pending access; false, if it has ended.
func (c *crew) step(i int) bool {
	c.t.Helper()
	w := c.workers[i]
	a, ok := w.Pending()
	if !ok {
		return false
	}
	if w.taking {
		c.watch(w, a)
	}
	v, _ := c.m.Do(a)
	if a.Kind == api.Add && w.adding != 0 && a.At == c.g.Adds(classOf(w.adding)) {
		c.counted = append(c.counted, w.adding)
	}
	w.answers = append(w.answers, v)
	w.Grant(v)
	if w.fault != "" {
		c.t.Fatal(w.fault)
	}
	return true
}

// watch looks at an access of a Take, ahead of it. Due is what is there ahead of the first one, and what is counted ahead of the last reading of Adds; what is read, and taken, is of a node that is protected.
func (c *crew) watch(w *worker, a api.Access) {
	c.t.Helper()
	for class := range api.Classes {
		if a.At != c.g.Adds(class) || a.Kind != api.Load {
			continue
		}
		for _, item := range items(c.m, c.g, class) {
			if (w.fresh || slices.Contains(c.counted, item)) && !slices.Contains(w.due, item) {
				w.due = append(w.due, item)
			}
		}
	}
	w.fresh = false
	if first := c.g.Item(1, 0); a.At >= first {
		node := uint64((a.At-first)/8 + 1)
		if c.m.Word(c.g.Hazard(w.self, 0)) != node && c.m.Word(c.g.Hazard(w.self, 1)) != node {
			c.t.Fatalf("thread %d reads node %d, which it does not protect", w.self, node)
		}
		if l, _ := free(c.m, c.g); slices.Contains(l, int(node)) {
			c.t.Fatalf("thread %d reads node %d, which is free", w.self, node)
		}
	}
}

// apart holds each node to being in one place at most: the stack, once, one list, once, or among the retired ones. It is all nodes that are in such a place, in their row.
func (c *crew) apart() []int {
	c.t.Helper()
	all, ok := free(c.m, c.g)
	for thread := range c.g.Threads() {
		for class := range api.Classes {
			l, is := listed(c.m, c.g, thread, class)
			ok = ok && is
			for _, n := range l {
				all = append(all, n.idx)
			}
		}
	}
	slices.Sort(all)
	if !ok || len(slices.Compact(slices.Clone(all))) != len(all) {
		c.t.Fatalf("free, and in lists, are %v", all)
	}
	for self := range c.g.Threads() {
		for _, n := range gone(c.m, c.g, self) {
			if _, twice := slices.BinarySearch(all, n); twice {
				c.t.Fatalf("node %d is retired, and free or in a list", n)
			}
		}
	}
	for self := range c.g.Threads() {
		all = append(all, gone(c.m, c.g, self)...)
	}
	slices.Sort(all)
	return all
}

// ended holds a crew, all of which have ended, to its nodes being where they ought to be, to each item being told just as often as it was put, or being there, and to its having been counted.
func (c *crew) ended() {
	c.t.Helper()
	if nodes := c.apart(); !slices.Equal(nodes, c.nodes) {
		c.t.Fatalf("of the nodes %v there are %v", c.nodes, nodes)
	}
	put, got := slices.Clone(c.there), []uint64(nil)
	for _, w := range c.workers {
		if w.Busy() {
			c.t.Fatalf("thread %d has not ended", w.self)
		}
		got = append(got, w.got...)
		put = append(put, w.put...)
		for _, item := range w.put {
			c.adds[classOf(item)]++
		}
	}
	for class, n := range c.adds {
		got = append(got, items(c.m, c.g, class)...)
		if c.m.Word(c.g.Adds(class)) != n {
			c.t.Fatalf("class %d: Adds is %#x, want %#x", class, c.m.Word(c.g.Adds(class)), n)
		}
	}
	if !sameItems(got, put) {
		c.t.Fatalf("put are %x, told or there are %x", put, got)
	}
}

// busy is the first worker from i on that has not ended; -1, if all have.
func (c *crew) busy(i int) int {
	for ; i < len(c.workers); i++ {
		if c.workers[i].Busy() {
			return i
		}
	}
	return -1
}

// state is what all that a crew may still do, and be held to, hangs on: what is in the memory, what each worker was answered so far, and what it may not miss, told as one number.
func (c *crew) state() uint64 {
	sum := uint64(14695981039346656037)
	mix := func(l ...uint64) {
		for _, w := range l {
			sum = (sum ^ w ^ w>>29) * 1099511628211
			sum ^= sum >> 32
		}
		sum = sum*31 + uint64(len(l))
	}
	for at := range c.m.Words() {
		mix(c.m.Word(at))
	}
	for _, w := range c.workers {
		mix(w.answers...)
		mix(w.due...)
	}
	return sum
}

// close ends all workers.
func (c *crew) close() {
	for _, w := range c.workers {
		w.Close()
	}
}

// rows steps crews in each row that there is, and is how many states these were in. Each row is the one before, but for its end, where the last worker that can give way to a later one does; one that comes to a state in which another row was is left there, as both go on alike.
func rows(begin func() *crew, ended func(c *crew)) int {
	met := map[uint64]bool{}
	var row []int
	last := 0 // where the row parts from the one before
	for {
		c := begin()
		var later []int // who could have been stepped in place of each of the row's
		for at := 0; c.busy(0) >= 0; at++ {
			if at == len(row) {
				row = append(row, c.busy(0))
			}
			later = append(later, c.busy(row[at]+1))
			c.step(row[at])
			if at < last {
				continue
			}
			c.apart()
			state := c.state()
			if met[state] {
				break
			}
			met[state] = true
		}
		if c.busy(0) < 0 {
			c.ended()
			ended(c)
		}
		c.close()
		last = len(later) - 1
		for last >= 0 && later[last] < 0 {
			last--
		}
		if last < 0 {
			return len(met)
		}
		row = append(row[:last], later[last])
	}
}

// Bodies of few calls, each row of whose accesses can be gone through.
func takesOnce(w *worker, p api.Port, g geom.Geom) { w.takes(p, g, 0) }
func takesTwice(w *worker, p api.Port, g geom.Geom) {
	w.takes(p, g, 0)
	w.takes(p, g, 0)
}
func addsOnce(w *worker, p api.Port, g geom.Geom) { w.adds(p, g, itemOf(0, 0x77)) }
func addsAndTakes(w *worker, p api.Port, g geom.Geom) {
	w.adds(p, g, itemOf(0, 0x78))
	w.takes(p, g, 0)
}
func prunesOnce(w *worker, p api.Port, g geom.Geom) { w.prunes(p, g, 0) }
func prunesAndAdds(w *worker, p api.Port, g geom.Geom) {
	w.prunes(p, g, 0)
	w.adds(p, g, itemOf(0, 0x79))
}
func prunesAndAddsElsewhere(w *worker, p api.Port, g geom.Geom) {
	w.prunes(p, g, 0)
	w.adds(p, g, itemOf(1, 0x7a))
}

// goThrough steps threads in each row of their accesses, in no fewer states than least, and holds how many items their Takes tell in all to these numbers, each of which has to come to pass in some row.
func goThrough(t *testing.T, g geom.Geom, laid *mem.Memory, least int, told []int, bodies ...body) {
	t.Helper()
	had := map[int]bool{}
	states := rows(func() *crew { return begun(t, g, laid, bodies...) }, func(c *crew) {
		n := 0
		for _, w := range c.workers {
			n += len(w.got)
		}
		if !slices.Contains(told, n) {
			t.Fatalf("%d items are told", n)
		}
		had[n] = true
	})
	if states < least || len(had) != len(told) {
		t.Errorf("%d states, and %v items are told", states, had)
	}
}

// TestRows: P9.1 to P9.4, two threads put, take and prune, in each row of their accesses: each item is told once, or is there, none is missed, each node is in one place, and none that is protected is given back.
func TestRows(t *testing.T) {
	scanned := []int{21, 22, 23} // with two more
	for _, x := range []struct {
		name       string
		bodies     []body
		own, other []node // the lists of thread 0 and of thread 1
		gone       []int  // what thread 0 has retired
		free       []int
		told       []int
		least      int
	}{
		{"a place that is filled", []body{addsOnce, takesOnce}, []node{with(3, 0x10, 0)}, nil, nil, nil, []int{1}, 100},
		{"a place that is filled, and no item", []body{addsOnce, takesOnce}, []node{{idx: 3}}, nil, nil, nil, []int{0, 1}, 100},
		{"a further node", []body{addsOnce, takesOnce}, nil, nil, nil, []int{3, 4}, []int{0, 1}, 200},
		{"a further node of a full list", []body{addsOnce, takesTwice}, []node{full(3, 0x10)}, nil, nil, []int{4}, []int{2}, 500},
		{"no further node", []body{addsOnce, takesTwice}, []node{full(3, 0x10)}, nil, nil, nil, []int{2}, 300},
		{"two that add", []body{addsAndTakes, addsOnce}, nil, nil, nil, []int{3, 4}, []int{1}, 500},
		{"one item", []body{takesOnce, takesOnce}, []node{with(3, 0x10, 0)}, nil, nil, nil, []int{1}, 200},
		{"two items", []body{takesOnce, takesOnce}, []node{with(3, 0x10, 0, 1)}, nil, nil, nil, []int{2}, 100},
		{"items of both", []body{takesTwice, takesOnce}, []node{with(3, 0x10, 0)}, []node{with(4, 0x20, 1)}, nil, nil, []int{2}, 500},
		{"nodes are unlinked", []body{prunesOnce, takesOnce}, []node{{idx: 3}, {idx: 4}, with(5, 0x10, 0)}, nil, nil, nil, []int{1}, 1000},
		{"all nodes are unlinked", []body{prunesOnce, takesOnce}, []node{{idx: 3}, {idx: 4}}, nil, scanned, nil, []int{0}, 1000},
		{"nodes are unlinked at both sides", []body{prunesOnce, takesOnce}, []node{{idx: 3}, with(5, 0x10, 7), {idx: 4}}, nil, scanned, nil, []int{1}, 1000},
		{"the item is taken while others are unlinked", []body{prunesOnce, takesOnce}, []node{with(3, 0x10, 7), {idx: 4}, with(5, 0x20, 0)}, nil, scanned, nil, []int{1}, 500},
		{"nodes are of another class then", []body{prunesAndAddsElsewhere, takesOnce}, []node{{idx: 3}, {idx: 4}, with(5, 0x10, 0)}, nil, scanned, nil, []int{1}, 2000},
		{"a node is the first one again", []body{prunesAndAdds, takesOnce}, []node{{idx: 3}, {idx: 4}, full(5, 0x10)}, nil, scanned, nil, []int{1}, 2000},
	} {
		t.Run(x.name, func(t *testing.T) {
			t.Parallel()
			g := arena(t, 1, len(x.bodies))
			m := ready(t, g)
			stack(m, g, x.free...)
			lay(m, g, 0, 0, x.own...)
			lay(m, g, 1, 0, x.other...)
			retired(m, g, 0, x.gone...)
			goThrough(t, g, m, x.least, x.told, x.bodies...)
		})
	}
}

// TestRowsOfThree: P9.1 to P9.4, two threads take, while a third one prunes, or adds, in each row of their accesses.
func TestRowsOfThree(t *testing.T) {
	for _, x := range []struct {
		name string
		body body
		told []int
	}{
		{"prunes", prunesOnce, []int{1}},
		{"adds", addsOnce, []int{1, 2}},
	} {
		t.Run(x.name, func(t *testing.T) {
			t.Parallel()
			g := arena(t, 1, 3)
			m := ready(t, g)
			stack(m, g)
			lay(m, g, 2, 0, with(3, 0x10, 0))
			goThrough(t, g, m, 2000, x.told, takesOnce, takesOnce, x.body)
		})
	}
}

// wanders is a body that does calls of all kinds, which hang on its number and a seed.
func wanders(seed, self, calls, classes int) body {
	return func(w *worker, p api.Port, g geom.Geom) {
		c := chance(seed*64 + self)
		n := uint64(self+1) << 16
		for i := range calls {
			class := c.below(classes)
			puts := 6
			if (i/20+seed)%2 == 1 {
				puts = 1 // now more is put, now more is taken
			}
			switch what := c.below(10); {
			case what < puts:
				n++
				w.adds(p, g, itemOf(class, n))
			case what == puts:
				w.prunes(p, g, class)
			default:
				w.takes(p, g, class)
			}
		}
	}
}

// wandering is a crew of threads that wander, with some of the arena's nodes.
func wandering(t *testing.T, g geom.Geom, ready *mem.Memory, seed, nodes, calls, classes int) *crew {
	t.Helper()
	m := ready.Copy()
	var l []int
	for idx := 1; idx <= nodes; idx++ {
		l = append(l, idx)
	}
	stack(m, g, l...)
	var bodies []body
	for self := range g.Threads() {
		bodies = append(bodies, wanders(seed, self, calls, classes))
	}
	return begun(t, g, m, bodies...)
}

// wander steps a crew in a row by a short rule, now by single accesses, now by many of one thread, and looks at it ever so often; those of whom stands still is true are left out.
func (c *crew) wander(seed, often int, still func(i int) bool) {
	c.t.Helper()
	next := chance(seed)
	var busy []int
	for i := range c.workers {
		if !still(i) {
			busy = append(busy, i)
		}
	}
	for n := 0; len(busy) > 0; n++ {
		at := next.below(len(busy))
		steps := 1
		if next.below(4) == 0 {
			steps = 1 + next.below(60)
		}
		for range steps {
			if !c.step(busy[at]) {
				busy = slices.Delete(busy, at, at+1)
				break
			}
		}
		if n%often == 0 {
			c.apart()
		}
	}
}

// TestLongRows: P9.4, threads that put, take and prune, in rows by a short rule, with few nodes and with many.
func TestLongRows(t *testing.T) {
	nobody := func(int) bool { return false }
	told, missed, refused := 0, 0, 0
	for _, x := range []struct{ threads, nodes, calls, classes, seeds, often int }{
		{1, 13, 300, 4, 10, 1}, {2, 6, 120, 1, 40, 1}, {3, 9, 120, 2, 40, 1}, {4, 40, 120, 1, 30, 4}, {64, 200, 12, 2, 1, 50},
	} {
		g := arena(t, 1, x.threads)
		m := ready(t, g)
		for seed := range x.seeds {
			c := wandering(t, g, m, seed, x.nodes, x.calls, x.classes)
			c.wander(seed, x.often, nobody)
			c.ended()
			for _, w := range c.workers {
				told += len(w.got)
				missed += w.missed
				refused += w.refused
			}
		}
	}
	if told < 1000 || missed < 1000 || refused < 100 {
		t.Errorf("%d items are told, %d times there was none, %d times there was no node", told, missed, refused)
	}
}

// TestStandsStill: P9.4, a thread stands still at each of its accesses while all others go on to their ends; then it ends, too.
func TestStandsStill(t *testing.T) {
	g := arena(t, 1, 3)
	m := ready(t, g)
	for stood := range 200 {
		c := wandering(t, g, m, stood%7, 12, 30, 1)
		for range 3 * stood {
			c.step(1)
		}
		c.wander(stood, 2, func(i int) bool { return i == 1 })
		for c.step(1) {
			c.apart()
		}
		c.ended()
	}
}

// TestEndedWhereItWaits: P9.4, a thread is ended at each of its accesses, and its hazards stay: the others go on to their ends, no item is told twice, and each node is in one place.
func TestEndedWhereItWaits(t *testing.T) {
	g := arena(t, 1, 3)
	m := ready(t, g)
	for stood := range 200 {
		c := wandering(t, g, m, stood%7, 30, 30, 1)
		for range 3 * stood {
			c.step(2)
		}
		c.workers[2].Close()
		c.wander(stood, 2, func(i int) bool { return i == 2 })
		c.apart()
		var got []uint64
		for _, w := range c.workers {
			got = append(got, w.got...)
		}
		got = append(got, items(c.m, g, 0)...)
		slices.Sort(got)
		if n := len(got); len(slices.Compact(got)) != n {
			t.Fatalf("an item is told, or there, more than once: %x", got)
		}
	}
}
