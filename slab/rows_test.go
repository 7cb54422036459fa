package slab_test

import (
	"slices"
	"strconv"
	"testing"

	"quillet/api"
	"quillet/geom"
	"quillet/lock"
	"quillet/mem"
	"quillet/port"
	"quillet/runs"
	"quillet/slab"
	"quillet/thread"
)

// The tests here hold P11.6, and what the calls of P11.1 to P11.5 do, to rows of the accesses of many threads.

// worker is a thread of a crew that does one body.
type worker struct {
	*thread.Thread
	self    int
	of      *crew
	has     []int // the blocks that it holds, but for
	drained []int // those that a Drain under way has taken
	did     counts
	answers []uint64
	closed  bool   // it was ended where it waits
	fault   string // what a call has done that it ought not to have
}

// counts is how often each thing was done: blocks that were told by Take and Drain; Takes of none; pages that were made, retired, and not retired; CASes that were not done.
type counts struct{ taken, drained, missed, made, retired, kept, vain int }

func (c *counts) add(o counts) {
	c.taken += o.taken
	c.drained += o.drained
	c.missed += o.missed
	c.made += o.made
	c.retired += o.retired
	c.kept += o.kept
	c.vain += o.vain
}

// deed is what a worker does.
type deed func(w *worker, p api.Port, g geom.Geom)

// faulty keeps the first fault: a test ends in its own goroutine alone.
func (w *worker) faulty(what string, n int) {
	if w.fault == "" {
		w.fault = "thread " + strconv.Itoa(w.self) + ": " + what + ": " + strconv.Itoa(n)
	}
}

// takes takes a block.
func (w *worker) takes(p api.Port, g geom.Geom, page, class int) {
	grain, ok := slab.Take(p, g, page, class)
	if !ok {
		w.did.missed++
		return
	}
	w.did.taken++
	w.has = append(w.has, grain)
	if grain/8 != page || blockAt(class, grain) < 0 {
		w.faulty("a block of another page, or class, is told", grain)
	}
}

// goesHome sends one of the blocks that it holds home; it holds that till the call has ended.
func (w *worker) goesHome(p api.Port, g geom.Geom, i int) {
	if !slab.Home(p, g, w.has[i]) {
		w.faulty("a block is not sent home", w.has[i])
	}
	w.has = slices.Delete(w.has, i, i+1)
}

// pushes puts one of the blocks that it holds onto its page's remote stack.
func (w *worker) pushes(p api.Port, g geom.Geom, i int) {
	if !slab.Push(p, g, w.has[i]) {
		w.faulty("a block is not pushed", w.has[i])
	}
	w.has = slices.Delete(w.has, i, i+1)
}

// drains takes a page's remote stack, as it was at the CAS that took it.
func (w *worker) drains(p api.Port, g geom.Geom, page int) {
	l := slab.Drain(p, g, page)
	if !slices.Equal(l, w.drained) {
		w.faulty("blocks that were in the stack are not told, of page", page)
	}
	w.did.drained += len(l)
	w.has = append(w.has, l...)
	w.drained = nil
}

// makes makes a page a slab.
func (w *worker) makes(p api.Port, g geom.Geom, page, class int) {
	grain := slab.Make(p, g, page, class)
	if grain != 8*page {
		w.faulty("another block than the first one is told", grain)
	}
	w.did.made++
	w.has = append(w.has, grain)
}

// retires retires a page, if it can; crew looks whether all its blocks were home.
func (w *worker) retires(p api.Port, g geom.Geom, page int) bool {
	done := slab.Retire(p, g, page)
	if done {
		w.did.retired++
	} else {
		w.did.kept++
	}
	return done
}

// crew are workers that share a memory.
type crew struct {
	t       *testing.T
	g       geom.Geom
	m       *mem.Memory
	workers []*worker
}

// newCrew is a crew whose workers have no bodies so far, in a copy of a memory.
func newCrew(t *testing.T, g geom.Geom, laid *mem.Memory) *crew {
	c := &crew{t: t, g: g, m: laid.Copy()}
	for self := range g.Threads() {
		c.workers = append(c.workers, &worker{Thread: thread.New(self), self: self, of: c})
	}
	return c
}

// begin begins each worker's body.
func (c *crew) begin(bodies ...deed) {
	for self, b := range bodies {
		w := c.workers[self]
		w.Start(func(p api.Port) { b(w, p, c.g) })
	}
	c.look()
}

// step grants a worker its pending access, and looks at where all blocks are then; false, if the worker has ended.
func (c *crew) step(i int) bool {
	c.t.Helper()
	if !c.steps(i) {
		return false
	}
	c.look()
	return true
}

// steps is step without a look.
func (c *crew) steps(i int) bool {
	c.t.Helper()
	w := c.workers[i]
	a, ok := w.Pending()
	if !ok {
		return false
	}
	var stack []int
	page := c.remoteOf(a)
	if page >= 0 {
		stack = c.stack(page)
	}
	v, _ := c.m.Do(a)
	if a.Kind == api.CAS && v == 0 {
		w.did.vain++
	}
	if page >= 0 && a.B == 0 && v != 0 {
		w.drained = stack
	}
	w.answers = append(w.answers, v)
	w.Grant(v)
	if w.fault != "" {
		c.t.Fatal(w.fault)
	}
	return true
}

// remoteOf is the page whose remote stack an access may change; -1, if there is none.
func (c *crew) remoteOf(a api.Access) int {
	if first := c.g.Remote(0); a.Kind == api.CAS && a.At >= first && a.At < first+c.g.Pages() {
		return a.At - first
	}
	return -1
}

// stack are the blocks of a page's remote stack, topmost first; of one that leads on and on those that it has first.
func (c *crew) stack(page int) []int {
	var l []int
	for w := c.m.Word(c.g.Remote(page)); w != 0 && len(l) <= 8; {
		l = append(l, int(w)-1)
		w = c.m.Word(c.g.Link(int(w) - 1))
	}
	return l
}

// classOf is the class that a page's bits have; -1, if they have none.
func (c *crew) classOf(page int) int { return int(c.m.Word(c.g.Bits(page))>>8&7) - 1 }

// places is in how many places each grain is: home, in a remote stack, held.
func (c *crew) places() []int {
	c.t.Helper()
	n := make([]int, 8*c.g.Pages())
	for page := range c.g.Pages() {
		home := c.m.Word(c.g.Bits(page)) & 255
		class := c.classOf(page)
		if class < 0 && home != 0 || class >= 0 && home > all(class) {
			c.t.Fatalf("page %d of class %d: home are %b", page, class, home)
		}
		for block := 0; home>>block != 0; block++ {
			n[8*page+begins(class)[block]] += int(home >> block & 1)
		}
		for _, grain := range c.stack(page) {
			if grain < 0 || grain/8 != page {
				c.t.Fatalf("in the stack of page %d is %d", page, grain)
			}
			n[grain]++
		}
	}
	for _, w := range c.workers {
		for _, grain := range slices.Concat(w.has, w.drained) {
			n[grain]++
		}
	}
	return n
}

// look holds each block of each slab to being in one place; and to there being none in other pages.
func (c *crew) look() {
	c.t.Helper()
	for grain, n := range c.places() {
		class, want := c.classOf(grain/8), 0
		if class >= 0 && blockAt(class, grain) >= 0 {
			want = 1
		}
		if n != want {
			c.t.Fatalf("grain %d, of a page of class %d, is in %d places", grain, class, n)
		}
	}
	for page := range c.g.Pages() {
		if class := c.classOf(page); class >= 0 && c.m.Word(c.g.Page(page))&0xffff != pageWord(slabs, 1, class, 0) {
			c.t.Fatalf("page %d is of class %d, and its word is %#x", page, class, c.m.Word(c.g.Page(page)))
		}
	}
}

// done is how often each thing was done by all.
func (c *crew) done() counts {
	var all counts
	for _, w := range c.workers {
		all.add(w.did)
	}
	return all
}

// ended holds a crew, all of which have ended, to this: when what they hold, and what is in remote stacks, has gone home, Retire makes each page of a class free. What one that was closed holds, it holds for ever, and its page stays.
func (c *crew) ended() {
	c.t.Helper()
	p := port.New(c.m, 0)
	var lost []int
	for _, w := range c.workers {
		if w.closed {
			lost = slices.Concat(lost, w.has, w.drained)
			continue
		}
		if w.Busy() {
			c.t.Fatalf("thread %d has not ended", w.self)
		}
		for _, grain := range w.has {
			slab.Push(p, c.g, grain)
		}
		w.has = nil
	}
	c.look()
	for page := range c.g.Pages() {
		stays := slices.ContainsFunc(lost, func(grain int) bool { return grain/8 == page })
		goes := c.classOf(page) >= 0 && !stays
		blocks := slab.Drain(p, c.g, page)
		if len(blocks) > 0 && slab.Retire(p, c.g, page) {
			c.t.Fatalf("page %d is retired, of which %v are held", page, blocks)
		}
		for _, grain := range blocks {
			if !slab.Home(p, c.g, grain) {
				c.t.Fatalf("block %d is not sent home", grain)
			}
		}
		if slab.Retire(p, c.g, page) != goes {
			c.t.Fatalf("page %d: Retire is %v, and %v are lost", page, !goes, lost)
		}
	}
	c.look()
}

// isFree holds the memory to all pages being one free run.
func (c *crew) isFree() {
	c.t.Helper()
	n := c.g.Pages()
	for page := range n {
		want := uint64(0)
		switch {
		case page == 0:
			want = pageWord(free, n, 0, 0)
		case page == n-1:
			want = pageWord(tail, n, 0, 0)
		}
		if w := c.m.Word(c.g.Page(page)); w != want {
			c.t.Fatalf("page %d is %#x, want %#x", page, w, want)
		}
	}
}

// busy is the first worker from i on that has not ended; -1, if all have.
func (c *crew) busy(i int) int {
	for ; i < len(c.workers); i++ {
		if c.workers[i].Busy() {
			return i
		}
	}
	return -1
}

// state is what all that a crew may still do, and be held to, hangs on: what is in the memory, and what each worker was answered so far, told as one number.
func (c *crew) state() uint64 {
	sum := uint64(14695981039346656037)
	mix := func(l ...uint64) {
		for _, w := range l {
			sum = (sum ^ w ^ w>>29) * 1099511628211
			sum ^= sum >> 32
		}
		sum = sum*31 + uint64(len(l))
	}
	for at := range c.m.Words() {
		mix(c.m.Word(at))
	}
	for _, w := range c.workers {
		mix(w.answers...)
	}
	return sum
}

// rows steps crews in each row that there is, and is how many states these were in. Each row is the one before, but for its end, where the last worker that can give way to a later one does; one that comes to a state in which another row was is left there, as both go on alike.
func rows(begin func() *crew, ended func(c *crew)) int {
	met := map[uint64]bool{}
	var row []int
	last := 0 // where the row parts from the one before
	for {
		c := begin()
		var later []int // who could have been stepped in place of each of the row's
		for at := 0; c.busy(0) >= 0; at++ {
			if at == len(row) {
				row = append(row, c.busy(0))
			}
			later = append(later, c.busy(row[at]+1))
			if at < last {
				c.steps(row[at])
				continue
			}
			c.step(row[at])
			state := c.state()
			if met[state] {
				break
			}
			met[state] = true
		}
		if c.busy(0) < 0 {
			ended(c)
			c.ended()
			c.isFree()
		}
		for _, w := range c.workers {
			w.Close()
		}
		last = len(later) - 1
		for last >= 0 && later[last] < 0 {
			last--
		}
		if last < 0 {
			return len(met)
		}
		row = append(row[:last], later[last])
	}
}

// Bodies of few calls, each row of whose accesses can be gone through. Each is of page 0, and of the class that it is told.
func takesOf(class, times int) deed {
	return func(w *worker, p api.Port, g geom.Geom) {
		for range times {
			w.takes(p, g, 0, class)
		}
	}
}

func goesHome(w *worker, p api.Port, g geom.Geom) {
	for len(w.has) > 0 {
		w.goesHome(p, g, 0)
	}
}

func pushes(w *worker, p api.Port, g geom.Geom) {
	for len(w.has) > 0 {
		w.pushes(p, g, 0)
	}
}

func drains(w *worker, p api.Port, g geom.Geom) { w.drains(p, g, 0) }

func pushesAndDrains(w *worker, p api.Port, g geom.Geom) {
	pushes(w, p, g)
	drains(w, p, g)
}

func drainsAndGoesHome(w *worker, p api.Port, g geom.Geom) {
	drains(w, p, g)
	goesHome(w, p, g)
}

func drainsAndPushes(w *worker, p api.Port, g geom.Geom) {
	drains(w, p, g)
	pushes(w, p, g)
}

func takesAndGoesHome(class int) deed {
	return func(w *worker, p api.Port, g geom.Geom) {
		w.takes(p, g, 0, class)
		goesHome(w, p, g)
	}
}

// goesRound takes a block, which goes onto the remote stack, and from there home.
func goesRound(class int) deed {
	return func(w *worker, p api.Port, g geom.Geom) {
		w.takes(p, g, 0, class)
		pushes(w, p, g)
		drainsAndGoesHome(w, p, g)
	}
}

func retires(w *worker, p api.Port, g geom.Geom) { w.retires(p, g, 0) }

// retiresAndMakes makes the page a slab of a class again, when it is retired, and sends the first block home.
func retiresAndMakes(class int) deed {
	return func(w *worker, p api.Port, g geom.Geom) {
		if w.retires(p, g, 0) {
			runs.Alloc(p, g, 1, 1)
			w.makes(p, g, 0, class)
			goesHome(w, p, g)
		}
	}
}

// laid is a crew in an arena of one page that is a slab of a class, each of whose blocks is where at tells: H home, R in the remote stack, or held by the thread of that digit.
func laid(t *testing.T, g geom.Geom, m *mem.Memory, class int, at string) *crew {
	t.Helper()
	c := newCrew(t, g, m)
	home, top := uint64(0), uint64(0)
	for block, i := range begins(class) {
		switch where := at[block]; where {
		case 'H':
			home |= 1 << block
		case 'R':
			store(c.m, g.Link(i), top)
			top = uint64(i) + 1
		default:
			w := c.workers[where-'0']
			w.has = append(w.has, i)
		}
	}
	store(c.m, g.Page(0), pageWord(slabs, 1, class, 0))
	store(c.m, g.Bits(0), bitsWord(home, class, 1))
	store(c.m, g.Remote(0), top)
	return c
}

// goThrough steps threads in each row of their accesses, in no fewer states than least, and holds how many blocks they are told by Take and by Drain in all to these numbers, each of which has to come to pass in some row.
func goThrough(t *testing.T, class int, at string, least int, told []int, bodies ...deed) counts {
	t.Helper()
	g := arena(t, 1, len(bodies))
	m := zeros(t, g)
	had := map[int]bool{}
	var all counts
	states := rows(func() *crew {
		c := laid(t, g, m, class, at)
		c.begin(bodies...)
		return c
	}, func(c *crew) {
		did := c.done()
		n := did.taken + did.drained
		if !slices.Contains(told, n) {
			t.Fatalf("%d blocks are told", n)
		}
		had[n] = true
		all.add(did)
	})
	if states < least || len(had) != len(told) {
		t.Errorf("%d states, and %v blocks are told", states, had)
	}
	return all
}

// TestRows: P11.2 to P11.6, two threads take, send home, push and drain, in each row of their accesses: each block is in one place behind each of them.
func TestRows(t *testing.T) {
	for _, x := range []struct {
		name   string
		class  int
		at     string // where the blocks are
		bodies []deed
		told   []int
		least  int
	}{
		{"two take one block", 3, "RH", []deed{takesOf(3, 1), takesOf(3, 1)}, []int{1}, 10},
		{"two take two blocks", 2, "HH", []deed{takesOf(2, 2), takesOf(2, 1)}, []int{2}, 40},
		{"two take of many blocks", 1, "HRHH", []deed{takesOf(1, 2), takesOf(1, 2)}, []int{3}, 150},
		{"one is taken while another comes home", 1, "R1RR", []deed{takesOf(1, 1), goesHome}, []int{0, 1}, 5},
		{"two are taken while two come home", 1, "1HR1", []deed{takesOf(1, 2), goesHome}, []int{1, 2}, 150},
		{"two send home", 0, "0HR10H1R", []deed{goesHome, goesHome}, []int{0}, 200},
		{"one block goes round", 2, "HR", []deed{takesAndGoesHome(2), takesAndGoesHome(2)}, []int{1, 2}, 40},
		{"two blocks go round", 3, "HH", []deed{takesAndGoesHome(3), takesAndGoesHome(3)}, []int{2}, 100},
		{"two push", 1, "0110", []deed{pushes, pushes}, []int{0}, 300},
		{"two push onto others", 0, "0RH10RH1", []deed{pushes, pushes}, []int{0}, 300},
		{"one pushes, one drains", 1, "0RHR", []deed{pushes, drains}, []int{2, 3}, 40},
		{"one pushes onto none, one drains", 2, "00", []deed{pushes, drains}, []int{0, 1, 2}, 40},
		{"two drain", 1, "RRRH", []deed{drains, drains}, []int{3}, 40},
		{"both push and drain", 2, "01", []deed{pushesAndDrains, pushesAndDrains}, []int{2}, 400},
		{"both drain and push", 1, "RR01", []deed{drainsAndPushes, drainsAndPushes}, []int{2, 3, 4, 5}, 8000},
		{"one drains and pushes, one pushes", 1, "R1R1", []deed{drainsAndPushes, pushes}, []int{2, 3, 4}, 1500},
		{"one drains and sends home, one takes", 2, "RR", []deed{drainsAndGoesHome, takesOf(2, 2)}, []int{2, 3, 4}, 70},
		{"both take, push, drain and send home", 3, "HR", []deed{goesRound(3), goesRound(3)}, []int{3, 5}, 1000},
	} {
		t.Run(x.name, func(t *testing.T) {
			t.Parallel()
			goThrough(t, x.class, x.at, x.least, x.told, x.bodies...)
		})
	}
}

// TestRowsOfRetire: P11.1, P11.5, P11.6, a page is retired, and made again, while another thread takes and sends home, in each row of their accesses: it is retired in some of them, and no thread has a block of it then.
func TestRowsOfRetire(t *testing.T) {
	for _, x := range []struct {
		name   string
		class  int
		at     string
		bodies []deed
		told   []int
		kept   bool // whether there are rows in which it is not retired
	}{
		{"one takes", 2, "HH", []deed{retires, takesOf(2, 1)}, []int{0, 1}, true},
		{"one sends home", 2, "H1", []deed{retires, goesHome}, []int{0}, true},
		{"one takes and sends home", 3, "HH", []deed{retires, takesAndGoesHome(3)}, []int{0, 1}, true},
		{"one drains and sends home", 1, "RHHR", []deed{retires, drainsAndGoesHome}, []int{2}, true},
		{"one takes, pushes, drains and sends home", 2, "HH", []deed{retires, goesRound(2)}, []int{0, 2}, true},
		{"made again, one takes", 1, "HHHH", []deed{retiresAndMakes(1), takesOf(1, 2)}, []int{0, 1, 2}, true},
		{"made of another class, one takes", 1, "HHHH", []deed{retiresAndMakes(3), takesOf(1, 2)}, []int{0, 2}, true},
		{"made of the class that one takes of", 1, "HHHH", []deed{retiresAndMakes(3), takesOf(3, 2)}, []int{0, 1, 2}, false},
		{"made again, one sends home and takes", 2, "1H", []deed{retiresAndMakes(2), func(w *worker, p api.Port, g geom.Geom) {
			goesHome(w, p, g)
			w.takes(p, g, 0, 2)
		}}, []int{0, 1}, true},
	} {
		t.Run(x.name, func(t *testing.T) {
			t.Parallel()
			did := goThrough(t, x.class, x.at, 10, x.told, x.bodies...)
			if did.retired == 0 || (did.kept > 0) != x.kept {
				t.Errorf("%d times it is retired, %d times it is not", did.retired, did.kept)
			}
		})
	}
}

// TestRowsOfThree: P11.2 to P11.6, three threads, in each row of their accesses.
func TestRowsOfThree(t *testing.T) {
	for _, x := range []struct {
		name   string
		class  int
		at     string
		bodies []deed
		told   []int
	}{
		{"take, take, send home", 2, "H2", []deed{takesOf(2, 1), takesOf(2, 1), goesHome}, []int{1, 2}},
		{"push, push, drain", 2, "01", []deed{pushes, pushes, drains}, []int{0, 1, 2}},
		{"push, drain, drain", 1, "0RR0", []deed{pushes, drains, drains}, []int{2, 3, 4}},
		{"push, drain and send home, take", 2, "0R", []deed{pushes, drainsAndGoesHome, takesOf(2, 1)}, []int{1, 2, 3}},
		{"retire, take, send home", 3, "2H", []deed{retires, takesOf(3, 1), goesHome}, []int{0, 1}},
		{"retire, push, drain and send home", 2, "H1", []deed{retires, pushes, drainsAndGoesHome}, []int{0, 1}},
		{"retire and make, take, take", 2, "HH", []deed{retiresAndMakes(2), takesOf(2, 1), takesOf(2, 1)}, []int{0, 1, 2}},
		{"retire and make, take and send home, take", 2, "HH", []deed{retiresAndMakes(2), takesAndGoesHome(2), takesOf(2, 1)}, []int{0, 1, 2}},
	} {
		t.Run(x.name, func(t *testing.T) {
			t.Parallel()
			goThrough(t, x.class, x.at, 30, x.told, x.bodies...)
		})
	}
}

// underLock does something, if the worker gets the lock, which is dropped behind that.
func (w *worker) underLock(p api.Port, g geom.Geom, do func()) {
	if lock.Try(p, g) {
		do()
		lock.Drop(p, g)
	}
}

// wanders is a body that does calls of all kinds, which hang on its number and a seed.
func wanders(seed, calls int) deed {
	return func(w *worker, p api.Port, g geom.Geom) {
		c := chance(seed*64 + w.self)
		for i := range calls {
			page, takes := c.below(g.Pages()), 7
			if (i/20+seed)%2 == 1 {
				takes = 0 // now more is taken, now more goes home
			}
			switch what := c.below(18); {
			case what < takes:
				class := c.below(4)
				if s := slab.Find(p, g, 8*page+c.below(8)); s.Kind == slabs && c.below(8) > 0 {
					class = s.Class
				}
				w.takes(p, g, page, class)
			case what < 11 && len(w.has) > 0:
				w.goesHome(p, g, c.below(len(w.has)))
			case what < 14 && len(w.has) > 0:
				w.pushes(p, g, c.below(len(w.has)))
			case what < 16:
				w.drains(p, g, page)
			case what == 16:
				class := c.below(4)
				w.underLock(p, g, func() {
					if page, ok := runs.Alloc(p, g, 1, 1); ok {
						w.makes(p, g, page, class)
					}
				})
			case what == 17:
				w.underLock(p, g, func() { w.retires(p, g, page) })
			}
			for len(w.has) > 6 {
				w.goesHome(p, g, 0)
			}
		}
	}
}

// wandering is a crew of threads that wander, in an arena half of whose pages are slabs, of all classes in turn, with all blocks home.
func wandering(t *testing.T, g geom.Geom, seed, calls int) *crew {
	t.Helper()
	m := zeros(t, g)
	p := port.New(m, 0)
	runs.Init(p, g)
	for i := range g.Pages() / 2 {
		page, _ := runs.Alloc(p, g, 1, 1)
		slab.Home(p, g, slab.Make(p, g, page, i%4))
	}
	c := newCrew(t, g, m)
	c.begin(slices.Repeat([]deed{wanders(seed, calls)}, g.Threads())...)
	return c
}

// goOn steps workers to their ends, in a row by a short rule, now by single accesses, now by many of one thread, but for one that stands still; and looks at where all blocks are ever so often.
func (c *crew) goOn(seed, often, still int) {
	c.t.Helper()
	next := chance(seed)
	var busy []int
	for i := range c.workers {
		if i != still {
			busy = append(busy, i)
		}
	}
	for n := 0; len(busy) > 0; n++ {
		at, steps := next.below(len(busy)), 1
		if next.below(4) == 0 {
			steps += next.below(30)
		}
		for range steps {
			if !c.steps(busy[at]) {
				busy = slices.Delete(busy, at, at+1)
				break
			}
		}
		if n%often == 0 {
			c.look()
		}
	}
}

// TestLongRows: P11.6, threads that do calls of all kinds, in rows by a short rule: each block is in one place, and when all have gone home all pages are one free run.
func TestLongRows(t *testing.T) {
	var did counts
	for _, x := range []struct{ pages, threads, seeds, calls, often int }{
		{1, 1, 100, 300, 1}, {1, 2, 200, 300, 1}, {2, 3, 100, 300, 1}, {6, 4, 60, 400, 2}, {3, 64, 2, 200, 10}, {40, 64, 2, 200, 50},
	} {
		g := arena(t, x.pages, x.threads)
		for seed := range x.seeds {
			c := wandering(t, g, seed, x.calls)
			c.goOn(seed, x.often, -1)
			did.add(c.done())
			c.ended()
			c.isFree()
		}
	}
	if did.taken < 10000 || did.drained < 10000 || did.missed < 10000 || did.made < 1000 || did.retired < 1000 || did.kept < 1000 || did.vain < 10000 {
		t.Errorf("it was done too seldom: %+v", did)
	}
}

// TestStandsStill: P11.6, a thread stands still at each of its accesses while all others go on to their ends; then it ends, too.
func TestStandsStill(t *testing.T) {
	g := arena(t, 2, 3)
	for stood := range 300 {
		c := wandering(t, g, stood%7, 40)
		for range stood {
			c.step(1)
		}
		c.goOn(stood, 1, 1)
		for c.step(1) {
		}
		c.ended()
		c.isFree()
	}
}

// TestEndedWhereItWaits: P11.6, a thread is ended at each of its accesses: the others go on to their ends, and each block stays in one place; what the thread holds, it holds for ever.
func TestEndedWhereItWaits(t *testing.T) {
	g := arena(t, 2, 3)
	for stood := range 300 {
		c := wandering(t, g, stood%7, 40)
		for range stood {
			c.step(2)
		}
		c.workers[2].Close()
		c.workers[2].closed = true
		c.goOn(stood, 1, 2)
		c.ended()
	}
}
