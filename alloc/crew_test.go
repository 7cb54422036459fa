package alloc_test

import (
	"slices"
	"strconv"
	"testing"

	"quillet/alloc"
	"quillet/api"
	"quillet/central"
	"quillet/geom"
	"quillet/mem"
	"quillet/port"
	"quillet/thread"
)

// This file has the threads that the tests of many threads step, and what is to hold at each of their accesses: P15.4, and when P15.2 and P15.3 say that each call takes effect.

// What a worker's call asks for. Of none the worker does what is no call of this package.
const (
	none = iota
	birth
	death
)

// asked is a call: what it asks for, and how many accesses the worker had done when it began.
type asked struct {
	what, at, size, align int
	clean                 bool
	from                  int
}

// told is what a call has told, and behind how many accesses.
type told struct {
	asked
	r     api.Result
	steps int
}

// worker is a thread of a crew that does one body.
type worker struct {
	*thread.Thread
	self    int
	call    asked
	tells   []told       // what its call has told
	news    []told       // what was told that the crew has not held to what is so yet
	wasLive map[int]bool // whether a block was live at its call's address, at each of its accesses
	did     counts
	calls   int    // how many have ended
	answers uint64 // what it was answered so far, and what was so then, told as one number
	closed  bool   // it was ended where it waits
	fault   string // what a call has done that it ought not to have
}

// counts is how often each thing was told: blocks that were born, and ended; ErrInvalid, ErrBusy and ErrNoMem; and CASes that were not done.
type counts struct{ born, died, late, busy, none, vain int }

func (c *counts) add(o counts) {
	c.born += o.born
	c.died += o.died
	c.late += o.late
	c.busy += o.busy
	c.none += o.none
	c.vain += o.vain
}

// deed is what a worker does.
type deed func(w *worker, p api.Port, g geom.Geom)

// way is a worker's port, which notes what it is told.
type way struct {
	api.Port
	w *worker
}

func (y way) Tell(r api.Result) {
	w := y.w
	w.tells = append(w.tells, told{w.call, r, y.Steps()})
	w.news = append(w.news, w.tells[len(w.tells)-1])
	y.Port.Tell(r)
}

// faulty keeps the first fault: a test ends in its own goroutine alone.
func (w *worker) faulty(what string) {
	if w.fault == "" {
		w.fault = "thread " + strconv.Itoa(w.self) + ": " + what
	}
}

// does is a call, which has to return what it has told, once.
func (w *worker) does(p api.Port, call asked, do func() api.Result) api.Result {
	call.from = p.Steps()
	w.call, w.tells = call, nil
	r := do()
	if len(w.tells) != 1 || w.tells[0].r != r {
		w.faulty("something else is returned than was told")
	}
	w.call = asked{}
	w.calls++
	return r
}

// mallocs, callocs and aligns ask for a block: its address, if there is one.
func (w *worker) mallocs(p api.Port, g geom.Geom, size int) (int, bool) {
	r := w.does(p, asked{what: birth, size: size, align: 1}, func() api.Result { return alloc.Malloc(p, g, size) })
	return r.At, r.E == api.OK
}

func (w *worker) callocs(p api.Port, g geom.Geom, n, size int) (int, bool) {
	r := w.does(p, asked{what: birth, size: n * size, align: 1, clean: true}, func() api.Result { return alloc.Calloc(p, g, n, size) })
	return r.At, r.E == api.OK
}

func (w *worker) aligns(p api.Port, g geom.Geom, align, size int) (int, bool) {
	r := w.does(p, asked{what: birth, size: size, align: align}, func() api.Result { return alloc.Aligned(p, g, align, size) })
	return r.At, r.E == api.OK
}

// frees asks for a block's end: whether it was that.
func (w *worker) frees(p api.Port, g geom.Geom, at int) bool {
	return w.does(p, asked{what: death, at: at}, func() api.Result { return alloc.Free(p, g, at) }).E == api.OK
}

// crew are workers that share a memory.
type crew struct {
	t       *testing.T
	g       geom.Geom
	m       *mem.Memory
	workers []*worker
	l       heap // the blocks that are live
	marks   int
}

// newCrew is a crew whose workers have no bodies so far, in a copy of a memory in which no block is live.
func newCrew(t *testing.T, g geom.Geom, laid *mem.Memory) *crew {
	c := &crew{t: t, g: g, m: laid.Copy()}
	for self := range g.Threads() {
		c.workers = append(c.workers, &worker{Thread: thread.New(self), self: self, wasLive: map[int]bool{}})
	}
	return c
}

// begin begins each worker's body; there may be fewer bodies than workers.
func (c *crew) begin(bodies ...deed) {
	c.t.Helper()
	for self, b := range bodies {
		w := c.workers[self]
		w.Start(func(p api.Port) { b(w, way{p, w}, c.g) })
		c.hears(w)
	}
	c.look()
}

// steps grants a worker its pending access; false, if the worker has ended.
func (c *crew) steps(i int) bool {
	c.t.Helper()
	w := c.workers[i]
	a, ok := w.Pending()
	if !ok {
		return false
	}
	if w.Steps() > 2000000 {
		c.t.Fatal("a call does not end")
	}
	if a.Kind == api.Put && slices.ContainsFunc(c.l, func(b block) bool { return b.in(a.At) }) {
		c.t.Fatalf("thread %d puts the byte %d, which is a live block's", i, a.At)
	}
	isLive := w.call.what == death && c.l.find(w.call.at) >= 0
	w.wasLive[w.Steps()+1] = isLive
	v, _ := c.m.Do(a)
	if a.Kind == api.CAS && v == 0 {
		w.did.vain++
	}
	w.answers = mixed(w.answers, v)
	if isLive {
		w.answers = mixed(w.answers, 1)
	}
	w.Grant(v)
	c.hears(w)
	return true
}

// step is steps, and a look.
func (c *crew) step(i int) bool {
	c.t.Helper()
	if !c.steps(i) {
		return false
	}
	c.look()
	return true
}

// hears holds what a worker has told since its last access to what is so.
func (c *crew) hears(w *worker) {
	c.t.Helper()
	news := w.news
	w.news = nil
	for _, n := range news {
		if n.steps != w.Steps() {
			c.t.Fatalf("thread %d tells %+v ahead of access %d", w.self, n, w.Steps())
		}
		switch {
		case n.r != (api.Result{At: n.r.At, N: n.r.N, E: n.r.E, Lin: n.r.Lin}):
			c.t.Fatalf("thread %d tells %+v", w.self, n)
		case n.r.E != api.OK:
			c.refused(w, n)
		case n.r.Lin != n.steps || n.r.Lin <= n.from:
			c.t.Fatalf("thread %d tells %+v, whose Lin is another access", w.self, n)
		case n.what == birth:
			c.bears(w, n)
		default:
			c.ends(w, n)
		}
	}
	if w.fault != "" {
		c.t.Fatal(w.fault)
	}
}

// refused holds an error to being what it may be, and ErrInvalid to no block's being live there at Lin.
func (c *crew) refused(w *worker, n told) {
	c.t.Helper()
	bytes := 64 * c.g.Pages()
	isNone := n.what == birth && n.size > bytes || n.what == death && (n.at < 0 || n.at%8 != 0 || n.at >= bytes)
	isAtOnce := n.r.Lin == n.from && n.steps == n.from
	live := w.wasLive[n.r.Lin]
	isOwn := n.r.Lin > n.from && n.r.Lin <= n.steps
	switch e := n.r.E; {
	case n.r.At != 0 || n.r.N != 0:
		c.t.Fatalf("thread %d tells %+v beside an error", w.self, n)
	case isNone && n.what == birth && e == api.ErrSize && isAtOnce:
	case isNone && n.what == death && e == api.ErrInvalid && isAtOnce:
	case !isNone && n.what == birth && e == api.ErrBusy && n.r.Lin == n.steps && isOwn:
		w.did.busy++
	case !isNone && n.what == birth && e == api.ErrNoMem && n.r.Lin == n.steps && isOwn:
		w.did.none++
	case !isNone && n.what == death && e == api.ErrInvalid && isOwn && !live:
		w.did.late++
	default:
		c.t.Fatalf("thread %d tells %+v, and it was live: %v", w.self, n, live)
	}
}

// bears is a birth: the block has to lie apart from all that are live, and, of Calloc, to be clean.
func (c *crew) bears(w *worker, n told) {
	c.t.Helper()
	c.marks++
	b := block{n.r.At, n.size, n.r.N, byte(16*c.marks + w.self + 1)}
	if what := c.l.fits(b, c.g.Pages()); what != "" {
		c.t.Fatalf("thread %d tells %+v: %s", w.self, n, what)
	}
	if n.r.N != roomOf(n.size, n.align) || n.r.At%n.align != 0 || n.clean && !b.isZero(c.m) {
		c.t.Fatalf("thread %d tells %+v, clean %v", w.self, n, b.isZero(c.m))
	}
	b.marks(c.m)
	c.l = append(c.l, b)
	w.did.born++
}

// ends is a death: the block has to be live.
func (c *crew) ends(w *worker, n told) {
	c.t.Helper()
	i := c.l.find(n.at)
	if i < 0 || n.r.N != c.l[i].size || !c.l[i].marked(c.m) {
		c.t.Fatalf("thread %d tells %+v, of %v", w.self, n, c.l)
	}
	c.l = slices.Delete(c.l, i, i+1)
	w.did.died++
}

// look holds each grain's state to telling what is live: so nothing has an effect that is not told, and all that is told has one.
func (c *crew) look() {
	c.t.Helper()
	n := 0
	for grain := range 8 * c.g.Pages() {
		w := c.m.Word(c.g.State(grain))
		if w&3 == api.None {
			continue
		}
		n++
		i := c.l.find(8 * grain)
		if w&3 != api.Live || i < 0 || int(w>>2&65535) != c.l[i].size {
			c.t.Fatalf("the state of grain %d is %#x, and live are %v", grain, w, c.l)
		}
	}
	if n != len(c.l) {
		c.t.Fatalf("%d grains are live, and these blocks: %v", n, c.l)
	}
}

// done is how often each thing was done by all.
func (c *crew) done() counts {
	var all counts
	for _, w := range c.workers {
		all.add(w.did)
	}
	return all
}

// frees ends all blocks that are live, each once, by all threads in turns.
func (c *crew) frees() {
	c.t.Helper()
	c.look()
	for i, b := range c.l {
		p := port.New(c.m, i%c.g.Threads())
		if !b.marked(c.m) {
			c.t.Fatalf("%v has other bytes than were written", b)
		}
		if r := alloc.Free(p, c.g, b.at); r.E != api.OK || r.N != b.size {
			c.t.Fatalf("Free of %v = %+v", b, r)
		}
		if r := alloc.Free(p, c.g, b.at); r.E != api.ErrInvalid {
			c.t.Fatalf("a second Free of %v = %+v", b, r)
		}
	}
	c.l = nil
	c.look()
}

// ended holds a crew, all of which have ended, to this: when what is live is freed, and all is flushed and trimmed, all pages are one free run, and can be had.
func (c *crew) ended() {
	c.t.Helper()
	for _, w := range c.workers {
		if w.Busy() {
			c.t.Fatalf("thread %d has not ended", w.self)
		}
	}
	c.frees()
	for self := range c.g.Threads() {
		central.Flush(port.New(c.m, self), c.g)
	}
	if e := central.Trim(port.New(c.m, 0), c.g); e != api.OK {
		c.t.Fatalf("Trim = %d", e)
	}
	if what := unclean(c.m, c.g); what != "" {
		c.t.Fatal(what)
	}
	if r := alloc.Malloc(port.New(c.m, 0), c.g, 64*c.g.Pages()); r.E != api.OK || r.At != 0 {
		c.t.Fatalf("Malloc of all = %+v", r)
	}
}

// busy is the first worker from i on that has not ended; -1, if all have.
func (c *crew) busy(i int) int {
	for ; i < len(c.workers); i++ {
		if c.workers[i].Busy() {
			return i
		}
	}
	return -1
}

// mixed is a number that tells of one and of what comes behind it.
func mixed(sum, w uint64) uint64 {
	sum = (sum ^ w ^ w>>29) * 1099511628211
	return sum ^ sum>>32 + 1
}

// state is what all that a crew may still do, and be held to, hangs on: what is in the memory, and what each worker was answered so far, told as one number.
func (c *crew) state() uint64 {
	sum := uint64(14695981039346656037)
	for at := range c.m.Words() {
		sum = mixed(sum, c.m.Word(at))
	}
	for at := range c.m.Bytes() {
		sum = mixed(sum, uint64(c.m.Byte(at)))
	}
	for _, w := range c.workers {
		sum = mixed(sum, w.answers)
		sum = mixed(sum, uint64(w.Steps()))
	}
	return sum
}

// rows steps crews in each row that there is, and is how many states these were in. Each row is the one before, but for its end, where the last worker that can give way to a later one does; one that comes to a state in which another row was is left there, as both go on alike.
func rows(begin func() *crew, ended func(c *crew)) int {
	met := map[uint64]bool{}
	var row []int
	last := 0 // where the row parts from the one before
	for {
		c := begin()
		var later []int // who could have been stepped in place of each of the row's
		for at := 0; c.busy(0) >= 0; at++ {
			if at == len(row) {
				row = append(row, c.busy(0))
			}
			later = append(later, c.busy(row[at]+1))
			if at < last {
				c.steps(row[at])
				continue
			}
			c.step(row[at])
			state := c.state()
			if met[state] {
				break
			}
			met[state] = true
		}
		if c.busy(0) < 0 {
			ended(c)
			c.ended()
		}
		for _, w := range c.workers {
			w.Close()
		}
		last = len(later) - 1
		for last >= 0 && later[last] < 0 {
			last--
		}
		if last < 0 {
			return len(met)
		}
		row = append(row[:last], later[last])
	}
}
