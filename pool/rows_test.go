package pool_test

import (
	"slices"
	"testing"

	"quillet/api"
	"quillet/geom"
	"quillet/mem"
	"quillet/pool"
	"quillet/thread"
)

// The tests here hold P8.4, and what the calls of P8.1 to P8.3 do, to rows of the accesses of many threads.

// worker is a thread that does one body. What is in its hands it has acquired, or unlinked from where others reached it, and not yet handed to Give or Retire.
type worker struct {
	*thread.Thread
	hands   []int
	missed  int // how often it has acquired none
	uses    int // the node that it has protected; 0, if none
	answers []uint64
}

// body is what a worker does.
type body func(w *worker, p api.Port, g geom.Geom)

// takes acquires a node, into the worker's hands.
func (w *worker) takes(p api.Port, g geom.Geom) int {
	node := pool.Acquire(p, g)
	if node == 0 {
		w.missed++
		return 0
	}
	w.hands = append(w.hands, node)
	return node
}

// leaves takes a node out of the worker's hands.
func (w *worker) leaves(node int) {
	i := slices.Index(w.hands, node)
	w.hands = slices.Delete(w.hands, i, i+1)
}

func (w *worker) gives(p api.Port, g geom.Geom, node int) {
	if node != 0 {
		w.leaves(node)
		pool.Give(p, g, node)
	}
}

func (w *worker) retires(p api.Port, g geom.Geom, node int) {
	if node != 0 {
		w.leaves(node)
		pool.Retire(p, g, node)
	}
}

// looks protects what a cell names, goes on for some accesses, and clears.
func (w *worker) looks(p api.Port, g geom.Geom, slot, cell, accesses int) {
	w.uses = pool.Protect(p, g, slot, cell).Idx
	for range accesses {
		p.Load(g.Item(w.uses, 0))
	}
	w.uses = 0
	pool.Clear(p, g, slot)
}

// swaps puts a node of its hands into a cell, and retires the one that was there.
func (w *worker) swaps(p api.Port, g geom.Geom, slot, cell, node int) {
	r := pool.Protect(p, g, slot, cell)
	w.uses = r.Idx
	done := p.CAS(cell, r.Word(), ref(node, r.Ver+1))
	if done {
		if node != 0 {
			w.leaves(node)
		}
		if r.Idx != 0 {
			w.hands = append(w.hands, r.Idx)
		}
	}
	w.uses = 0
	pool.Clear(p, g, slot)
	if done {
		w.retires(p, g, r.Idx)
	}
}

// crew are workers that share a memory, some nodes, each of them free at first or in a cell, and cells, words by which all reach a node.
type crew struct {
	t       *testing.T
	g       geom.Geom
	m       *mem.Memory
	nodes   []int
	cells   []int
	workers []*worker
	pool    uint64 // Pool, as it was behind the last step
}

// begun is a crew, each of which has begun its body; in the first cell is the node linked, if that is not 0.
func begun(t *testing.T, g geom.Geom, ready *mem.Memory, nodes []int, linked int, bodies ...body) *crew {
	t.Helper()
	c := &crew{t: t, g: g, m: ready.Copy(), nodes: nodes}
	for i := range api.Classes {
		c.cells = append(c.cells, g.Head(0, i))
		put(c.m, g.Head(0, i), 0)
	}
	stack(c.m, g, 7, slices.DeleteFunc(slices.Clone(nodes), func(node int) bool { return node == linked })...)
	put(c.m, c.cells[0], ref(linked, 0))
	c.pool = c.m.Word(g.Pool())
	for self, b := range bodies {
		w := &worker{Thread: thread.New(self)}
		c.workers = append(c.workers, w)
		w.Start(func(p api.Port) { b(w, p, g) })
	}
	return c
}

// step grants a worker its pending access; false, if it has ended.
func (c *crew) step(i int) bool {
	a, ok := c.workers[i].Pending()
	if !ok {
		return false
	}
	v, _ := c.m.Do(a)
	c.workers[i].answers = append(c.workers[i].answers, v)
	c.workers[i].Grant(v)
	c.changes()
	return true
}

// changes holds what a step has done to Pool's Ver, and the lists' lengths.
func (c *crew) changes() {
	c.t.Helper()
	now := c.m.Word(c.g.Pool())
	if now != c.pool && verOf(now) != verOf(c.pool)+1 || now&mark != 0 {
		c.t.Fatalf("Pool was %#x, and is %#x", c.pool, now)
	}
	c.pool = now
	for self := range c.workers {
		if n := c.m.Word(c.g.Gone(self)); n > uint64(2*c.g.Threads()+1) {
			c.t.Fatalf("thread %d has retired %d nodes", self, n)
		}
	}
}

// apart holds that no free node is elsewhere, too: in another place of the stack, in hands, in a list, in a cell, or in use; and that none is in two hands.
func (c *crew) apart() {
	c.t.Helper()
	is := map[int]int{}
	l, ok := free(c.m, c.g)
	if !ok {
		c.t.Fatalf("free are %v, and so on", l)
	}
	for _, node := range l {
		is[node]++
	}
	for _, w := range c.workers {
		for _, node := range w.hands {
			is[node]++
		}
	}
	for node, times := range is {
		if times > 1 {
			c.t.Fatalf("node %d is in %d places: free are %v", node, times, l)
		}
	}
	var others []int
	for self, w := range c.workers {
		others = append(others, w.uses)
		others = append(others, gone(c.m, c.g, self)...)
	}
	for _, cell := range c.cells {
		others = append(others, idxOf(c.m.Word(cell)))
	}
	for _, node := range others {
		if slices.Contains(l, node) {
			c.t.Fatalf("node %d is free, and in a list, in a cell, or in use", node)
		}
	}
}

// ended holds a crew, all of which have ended, to all nodes being where they ought to be, once each.
func (c *crew) ended() {
	c.t.Helper()
	c.apart()
	all, _ := free(c.m, c.g)
	for self, w := range c.workers {
		if w.Busy() {
			c.t.Fatalf("thread %d has not ended", self)
		}
		all = append(all, w.hands...)
		all = append(all, gone(c.m, c.g, self)...)
	}
	for _, cell := range c.cells {
		if node := idxOf(c.m.Word(cell)); node != 0 {
			all = append(all, node)
		}
	}
	slices.Sort(all)
	if want := slices.Sorted(slices.Values(c.nodes)); !slices.Equal(all, want) {
		c.t.Fatalf("of the nodes %v there are %v", want, all)
	}
}

// busy is the first worker from i on that has not ended; -1, if all have.
func (c *crew) busy(i int) int {
	for ; i < len(c.workers); i++ {
		if c.workers[i].Busy() {
			return i
		}
	}
	return -1
}

// state is what all that a crew may still do hangs on: what is in the memory, and what each worker was answered so far, told as one number.
func (c *crew) state() uint64 {
	sum := uint64(14695981039346656037)
	mix := func(w uint64) {
		sum = (sum ^ w ^ w>>29) * 1099511628211
		sum ^= sum >> 32
	}
	for at := range c.m.Words() {
		mix(c.m.Word(at))
	}
	for _, w := range c.workers {
		mix(uint64(len(w.answers)))
		for _, v := range w.answers {
			mix(v)
		}
	}
	return sum
}

// close ends all workers.
func (c *crew) close() {
	for _, w := range c.workers {
		w.Close()
	}
}

// rows steps crews in each row that there is, and is how many states these were in. Each row is the one before, but for its end, where the last worker that can give way to a later one does; one that comes to a state in which another row was is left there, as both go on alike.
func rows(begin func() *crew, ended func(c *crew)) int {
	met := map[uint64]bool{}
	var row []int
	last := 0 // where the row parts from the one before
	for {
		c := begin()
		var later []int // who could have been stepped in place of each of the row's
		for at := 0; c.busy(0) >= 0; at++ {
			if at == len(row) {
				row = append(row, c.busy(0))
			}
			later = append(later, c.busy(row[at]+1))
			c.step(row[at])
			if at < last {
				continue
			}
			c.apart()
			state := c.state()
			if met[state] {
				break
			}
			met[state] = true
		}
		if c.busy(0) < 0 {
			c.ended()
			ended(c)
		}
		c.close()
		last = len(later) - 1
		for last >= 0 && later[last] < 0 {
			last--
		}
		if last < 0 {
			return len(met)
		}
		row = append(row[:last], later[last])
	}
}

// many holds how many states there were to being no few.
func many(t *testing.T, states, least int) {
	t.Helper()
	if states < least {
		t.Errorf("%d states", states)
	}
}

// Bodies of few calls, each row of whose accesses can be gone through.
func takes(w *worker, p api.Port, g geom.Geom)   { w.takes(p, g) }
func borrows(w *worker, p api.Port, g geom.Geom) { w.gives(p, g, w.takes(p, g)) }
func shuffles(w *worker, p api.Port, g geom.Geom) {
	first := w.takes(p, g)
	w.takes(p, g)
	w.gives(p, g, first)
}
func looksOnce(w *worker, p api.Port, g geom.Geom) { w.looks(p, g, 1, g.Head(0, 0), 1) }
func unlinks(w *worker, p api.Port, g geom.Geom)   { w.swaps(p, g, 0, g.Head(0, 0), 0) }
func unlinksAndTakes(w *worker, p api.Port, g geom.Geom) {
	unlinks(w, p, g)
	pool.Scan(p, g)
	w.takes(p, g)
}
func replaces(w *worker, p api.Port, g geom.Geom) {
	w.swaps(p, g, 0, g.Head(0, 0), w.takes(p, g))
	pool.Scan(p, g)
}

// TestRowsOfStack: P8.1, P8.4, threads take nodes and give some of them back, in each row of their accesses: a node that comes back does not take in who has read what was below it, none is in two hands, none is lost, and who asks for one while there are enough for all gets it.
func TestRowsOfStack(t *testing.T) {
	for _, x := range []struct {
		bodies []body
		enough int
		states int
	}{
		{[]body{borrows, shuffles}, 3, 100},
		{[]body{takes, borrows, takes}, 3, 300},
		{[]body{takes, shuffles, takes}, 4, 300},
	} {
		g := arena(t, 1, len(x.bodies))
		m := ready(t, g)
		for _, nodes := range [][]int{{3}, {3, 9}, {3, 9, 1}, {3, 9, 1, 2}} {
			states := rows(func() *crew { return begun(t, g, m, nodes, 0, x.bodies...) }, func(c *crew) {
				for _, w := range c.workers {
					if w.missed > 0 && len(nodes) >= x.enough {
						t.Fatalf("of %v there was none", nodes)
					}
				}
			})
			many(t, states, x.states)
		}
	}
}

// TestRowsOfProtect: P8.2 to P8.4, threads protect what a cell names, while another one unlinks that node, retires it, scans, and takes what is free, in each row of their accesses: the node is not given back as long as it is in use, and is behind that.
func TestRowsOfProtect(t *testing.T) {
	for _, x := range []struct {
		bodies []body
		nodes  []int
		states int
	}{
		{[]body{looksOnce, unlinksAndTakes}, []int{6}, 300},
		{[]body{looksOnce, replaces}, []int{6, 2}, 300},
		{[]body{looksOnce, unlinksAndTakes, looksOnce}, []int{6}, 3000},
		{[]body{looksOnce, replaces, unlinks}, []int{6, 2}, 3000},
	} {
		g := arena(t, 1, len(x.bodies))
		m := ready(t, g)
		kept, back := 0, 0
		states := rows(func() *crew { return begun(t, g, m, x.nodes, 6, x.bodies...) }, func(c *crew) {
			if len(gone(c.m, g, 1)) == 1 {
				kept++
			} else {
				back++
			}
		})
		many(t, states, x.states)
		if kept == 0 || back == 0 {
			t.Errorf("the node stayed %d times, and went back %d times", kept, back)
		}
	}
}

// TestRowsOfRetire: P8.3, P8.4, two threads have lists that are all but full, and retire a node each: nothing is lost, and no list is longer than it may be.
func TestRowsOfRetire(t *testing.T) {
	g := arena(t, 1, 2)
	m := ready(t, g)
	retires(m, g, 0, 11, 12, 13, 14)
	retires(m, g, 1, 21, 22, 23, 24)
	for self := range 2 {
		for slot, node := range []int{11 + self, 23 - self} {
			put(m, g.Hazard(self, slot), uint64(node))
		}
	}
	nodes := []int{1, 2, 11, 12, 13, 14, 21, 22, 23, 24}
	for first := range 40 { // how many accesses the first one has, ahead of each of the second one's
		for stood := range 40 { // how many the second one has by then
			does := func(w *worker, p api.Port, g geom.Geom) { w.retires(p, g, w.takes(p, g)) }
			c := begun(t, g, m, nodes[:2], 0, does, does)
			c.nodes = nodes
			for range stood {
				c.step(1)
				c.apart()
			}
			for range first {
				c.step(0)
				c.apart()
			}
			for self := range 2 {
				for c.step(1 - self) {
					c.apart()
				}
			}
			c.ended()
			isGone(t, c.m, g, 0, 11, 12)
			isGone(t, c.m, g, 1, 22, 23)
		}
	}
}

// wanders is a body that does calls of all kinds, which hang on its number and a seed.
func wanders(seed, self, calls int) body {
	return func(w *worker, p api.Port, g geom.Geom) {
		c := chance(seed*64 + self)
		for range calls {
			slot, cell := c.below(2), g.Head(0, c.below(api.Classes))
			node := 0
			if len(w.hands) > 0 {
				node = w.hands[c.below(len(w.hands))]
			}
			switch c.below(8) {
			case 0:
				w.gives(p, g, node)
			case 1:
				w.retires(p, g, node)
			case 2:
				w.looks(p, g, slot, cell, c.below(6))
			case 3:
				pool.Scan(p, g)
			case 4, 5:
				w.swaps(p, g, slot, cell, node)
			default:
				w.takes(p, g)
			}
		}
		for len(w.hands) > 2 {
			w.gives(p, g, w.hands[0])
		}
	}
}

// wandering is a crew of threads that wander, with some of the arena's nodes.
func wandering(t *testing.T, g geom.Geom, ready *mem.Memory, seed, nodes, calls int) *crew {
	t.Helper()
	var l []int
	for node := 1; node <= nodes; node++ {
		l = append(l, node)
	}
	var bodies []body
	for self := range g.Threads() {
		bodies = append(bodies, wanders(seed, self, calls))
	}
	return begun(t, g, ready, l, 1, bodies...)
}

// wander steps a crew in a row by a short rule, now by single accesses, now by many of one thread, and looks at it ever so often; those of whom stands still is true are left out.
func (c *crew) wander(seed, often int, still func(i int) bool) {
	c.t.Helper()
	next := chance(seed)
	var busy []int
	for i := range c.workers {
		if !still(i) {
			busy = append(busy, i)
		}
	}
	for n := 0; len(busy) > 0; n++ {
		at := next.below(len(busy))
		steps := 1
		if next.below(4) == 0 {
			steps = 1 + next.below(40)
		}
		for range steps {
			if !c.step(busy[at]) {
				busy = slices.Delete(busy, at, at+1)
				break
			}
			if n%often == 0 {
				c.apart()
			}
		}
	}
}

// TestLongRows: P8.4, threads that acquire, give back, protect and retire, in rows by a short rule, with few nodes and with many.
func TestLongRows(t *testing.T) {
	nobody := func(int) bool { return false }
	for _, x := range []struct{ threads, nodes, calls, seeds, often int }{
		{1, 13, 200, 20, 1}, {2, 6, 80, 60, 1}, {3, 12, 80, 60, 1}, {4, 40, 80, 60, 1}, {64, 300, 40, 3, 50},
	} {
		g := arena(t, 1, x.threads)
		m := ready(t, g)
		for seed := range x.seeds {
			c := wandering(t, g, m, seed, x.nodes, x.calls)
			c.wander(seed, x.often, nobody)
			c.ended()
		}
	}
}

// TestStandsStill: P8.4, a thread stands still at each of its accesses while all others go on to their ends; then it ends, too.
func TestStandsStill(t *testing.T) {
	g := arena(t, 1, 3)
	m := ready(t, g)
	for stood := range 250 {
		c := wandering(t, g, m, stood%5, 14, 40)
		for range stood {
			c.step(1)
		}
		c.wander(stood, 1, func(i int) bool { return i == 1 })
		for c.step(1) {
			c.apart()
		}
		c.ended()
	}
}

// TestEndedWhereItWaits: P8.4, a thread is ended at each of its accesses, and its hazards stay: the others go on to their ends, no node is in two places, and what was in use is not given back.
func TestEndedWhereItWaits(t *testing.T) {
	g := arena(t, 1, 3)
	m := ready(t, g)
	for stood := range 250 {
		c := wandering(t, g, m, stood%5, 30, 40)
		for range stood {
			c.step(2)
		}
		c.workers[2].Close()
		c.wander(stood, 1, func(i int) bool { return i == 2 })
		c.apart()
	}
}
