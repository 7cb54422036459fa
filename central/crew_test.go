package central_test

import (
	"math/bits"
	"slices"
	"strconv"
	"testing"

	"quillet/api"
	"quillet/central"
	"quillet/geom"
	"quillet/mem"
	"quillet/port"
	"quillet/thread"
)

// This file has the threads that the tests of many threads step, and what is to hold behind each of their accesses.

// block is one that is held: of class -1 it is a run of k pages.
type block struct{ grain, class, k int }

// worker is a thread of a crew that does one body.
type worker struct {
	*thread.Thread
	self    int
	has     []block // the blocks that it holds
	did     counts
	calls   int // how many have ended
	book    *ledger
	answers uint64 // what it was answered so far, told as one number
	closed  bool   // it was ended where it waits
	fault   string // what a call has done that it ought not to have
}

// counts is how often each thing was done: blocks and runs that were had, ErrBusy and ErrNoMem that were told, blocks and runs that were released, moves of Sweeps, Trims that were done, CASes that were not.
type counts struct{ had, runs, busy, none, released, swept, trimmed, vain int }

func (c *counts) add(o counts) {
	c.had += o.had
	c.runs += o.runs
	c.busy += o.busy
	c.none += o.none
	c.released += o.released
	c.swept += o.swept
	c.trimmed += o.trimmed
	c.vain += o.vain
}

// deed is what a worker does.
type deed func(w *worker, p api.Port, g geom.Geom)

// faulty keeps the first fault: a test ends in its own goroutine alone.
func (w *worker) faulty(what string, n int) {
	if w.fault == "" {
		w.fault = "thread " + strconv.Itoa(w.self) + ": " + what + ": " + strconv.Itoa(n)
	}
}

// obtains looks for a block of a class.
func (w *worker) obtains(p api.Port, g geom.Geom, class int) {
	grain, e := central.Obtain(p, g, class)
	w.ends()
	w.keeps(block{grain, class, 1}, e)
}

// pages looks for a run.
func (w *worker) pages(p api.Port, g geom.Geom, k, a int) {
	grain, e := central.Pages(p, g, k, a)
	w.ends()
	if e == api.OK && (grain%8 != 0 || grain/8%a != 0) {
		w.faulty("a run is told at", grain)
	}
	w.keeps(block{grain, -1, k}, e)
}

// keeps holds a block that was told, or counts why there is none.
func (w *worker) keeps(b block, e api.Errno) {
	switch e {
	case api.OK:
		w.has = append(w.has, b)
		if b.class >= 0 {
			w.did.had++
		} else {
			w.did.runs++
		}
		return
	case api.ErrBusy:
		w.did.busy++
	case api.ErrNoMem:
		w.did.none++
	default:
		w.faulty("an error of another kind is told", int(e))
	}
	if b.grain != 0 {
		w.faulty("a block is told beside an error", b.grain)
	}
}

// releases releases one of the blocks that a worker holds; it is not held from the call's beginning on.
func (w *worker) releases(p api.Port, g geom.Geom, of *worker, i int) {
	b := of.has[i]
	of.has = slices.Delete(of.has, i, i+1)
	w.did.released++
	before := w.book.moves
	central.Release(p, g, b.grain)
	w.ends()
	if w.book.moves == before {
		w.faulty("a block is not released", b.grain)
	}
}

func (w *worker) sweeps(p api.Port, g geom.Geom) {
	before := w.book.moves
	n, got := central.Sweep(p, g)
	w.ends()
	w.did.swept += int(n)
	if n != w.book.moves-before {
		w.faulty("other moves than were done are told", int(n))
	}
	if !got {
		w.did.busy++
	}
}

func (w *worker) flushes(p api.Port, g geom.Geom) {
	central.Flush(p, g)
	w.ends()
}

func (w *worker) trims(p api.Port, g geom.Geom) {
	e := central.Trim(p, g)
	w.ends()
	switch e {
	case api.OK:
		w.did.trimmed++
	case api.ErrBusy:
		w.did.busy++
	default:
		w.faulty("an error of another kind is told", int(e))
	}
}

// ends is behind a call.
func (w *worker) ends() {
	w.calls++
	w.book.end()
	w.book.inHand = w.book.inHand[:0] // what was in hand is told, or was put somewhere
	w.book.row, w.book.tries = w.book.row[:0], w.book.tries[:0]
}

// crew are workers that share a memory.
type crew struct {
	t       *testing.T
	g       geom.Geom
	m       *mem.Memory
	workers []*worker
}

// newCrew is a crew whose workers have no bodies so far, in a copy of a memory.
func newCrew(t *testing.T, g geom.Geom, laid *mem.Memory) *crew {
	c := &crew{t: t, g: g, m: laid.Copy()}
	for self := range g.Threads() {
		c.workers = append(c.workers, &worker{Thread: thread.New(self), self: self, book: &ledger{g: g, self: self}})
	}
	return c
}

// begin begins each worker's body; there may be fewer bodies than workers.
func (c *crew) begin(bodies ...deed) {
	for self, b := range bodies {
		w := c.workers[self]
		w.Start(func(p api.Port) { b(w, p, c.g) })
	}
	c.look()
}

// steps grants a worker its pending access; false, if the worker has ended.
func (c *crew) steps(i int) bool {
	c.t.Helper()
	w := c.workers[i]
	a, ok := w.Pending()
	if !ok {
		return false
	}
	if w.Steps() > 3000000 {
		c.t.Fatal("a call does not end")
	}
	w.book.note(c.m, a)
	v, _ := c.m.Do(a)
	if a.Kind == api.CAS && v == 0 {
		w.did.vain++
	}
	w.answers = mixed(w.answers, v)
	w.Grant(v)
	if w.fault == "" {
		w.fault = w.book.fault
	}
	if w.fault != "" {
		c.t.Fatal(w.fault)
	}
	return true
}

// step is steps, and a look.
func (c *crew) step(i int) bool {
	c.t.Helper()
	if !c.steps(i) {
		return false
	}
	c.look()
	return true
}

// places is in how many places each grain's block is: home, in a remote stack, in caches and bags.
func (c *crew) places() []int {
	c.t.Helper()
	n := make([]int, 8*c.g.Pages())
	for page := range c.g.Pages() {
		w := c.m.Word(c.g.Bits(page))
		class, home := classOf(w), homeOf(w)
		if class < 0 && home != 0 || class >= 0 && bits.Len64(home) > len(begins(class)) {
			c.t.Fatalf("page %d of class %d: home are %b", page, class, home)
		}
		for block := 0; home>>block != 0; block++ {
			n[8*page+begins(class)[block]] += int(home >> block & 1)
		}
		for _, grain := range stackOf(c.m, c.g, page) {
			if grain/8 != page {
				c.t.Fatalf("in the stack of page %d is %d", page, grain)
			}
			n[grain]++
		}
	}
	first := c.g.Cache(0, 0, 0)
	for at := first; at < c.g.Head(0, 0); at++ {
		if w := c.m.Word(at); w != 0 {
			n[w-1]++
			c.isOf((at-first)/2%4, int(w)-1)
		}
	}
	for at := c.g.Item(1, 0); at < c.g.Words(); at++ {
		if w := c.m.Word(at); w != 0 {
			n[w-1]++
		}
	}
	for thread := range c.g.Threads() {
		for class := range 4 {
			for _, grain := range bagOf(c.m, c.g, thread, class) {
				c.isOf(class, grain)
			}
		}
	}
	return n
}

// isOf holds a block of a cache, or of a bag, to being of its class.
func (c *crew) isOf(class, grain int) {
	c.t.Helper()
	if is := classOf(c.m.Word(c.g.Bits(grain / 8))); is != class {
		c.t.Fatalf("block %d, of class %d, is put where those of class %d are", grain, is, class)
	}
}

// look holds each block that is held to being so alone, in no place, and on no other one; and each other one to being in one place, or in the hands of a call under way.
func (c *crew) look() {
	c.t.Helper()
	n := c.places()
	held := make([]int, 8*c.g.Pages()) // how many blocks lie on each grain
	under := 0                         // how many calls may be under way
	for _, w := range c.workers {
		if w.Busy() || w.closed {
			under++
		}
		for _, b := range w.has {
			c.isHeld(n, b)
			for i := range b.grains() {
				held[b.grain+i]++
			}
		}
	}
	inHand := 0
	for grain := range n {
		if held[grain] > 1 {
			c.t.Fatalf("two blocks that are held lie on grain %d", grain)
		}
		class := classOf(c.m.Word(c.g.Bits(grain / 8)))
		switch isBlock := class >= 0 && blockAt(class, grain) >= 0; {
		case n[grain]+held[grain] > 1 || !isBlock && n[grain] > 0:
			c.t.Fatalf("grain %d, of a page of class %d, is in %d places, and held by %d", grain, class, n[grain], held[grain])
		case isBlock && n[grain]+held[grain] == 0:
			inHand++
		}
	}
	if inHand > 8*under {
		c.t.Fatalf("%d blocks are in the hands of %d calls", inHand, under)
	}
}

// grains is how many a block has.
func (b block) grains() int {
	if b.class < 0 {
		return 8 * b.k
	}
	return sizes[b.class] / 8
}

// isHeld holds a block that is held to what its page's words tell.
func (c *crew) isHeld(n []int, b block) {
	c.t.Helper()
	page := b.grain / 8
	w, class := c.m.Word(c.g.Page(page)), classOf(c.m.Word(c.g.Bits(page)))
	switch {
	case b.class < 0 && (w != pageWord(used, b.k, 0, 0) || class != -1):
		c.t.Fatalf("the run %v is held, and its page is %#x, of class %d", b, w, class)
	case b.class >= 0 && (w&0xffff != pageWord(slabs, 1, b.class, 0) || class != b.class):
		c.t.Fatalf("the block %v is held, and its page is %#x, of class %d", b, w, class)
	case b.class >= 0 && blockAt(class, b.grain) < 0 || n[b.grain] != 0:
		c.t.Fatalf("the block %v is held, and in %d places", b, n[b.grain])
	}
}

// done is how often each thing was done by all.
func (c *crew) done() counts {
	var all counts
	for _, w := range c.workers {
		all.add(w.did)
	}
	return all
}

// counted holds the epoch to the moves that all have done.
func (c *crew) counted() {
	c.t.Helper()
	sum := uint64(0)
	for _, w := range c.workers {
		sum += w.book.moves
	}
	if n := c.m.Word(c.g.Epoch()); n != sum {
		c.t.Fatalf("the epoch is %d, and %d moves are done", n, sum)
	}
}

// ended holds a crew, all of which have ended, to this: when what they hold is released, by whichever thread, and one has trimmed, all pages are one free run.
func (c *crew) ended() {
	c.t.Helper()
	c.look()
	c.counted()
	n := 0
	for _, w := range c.workers {
		if w.Busy() {
			c.t.Fatalf("thread %d has not ended", w.self)
		}
		for _, b := range w.has {
			n++
			central.Release(port.New(c.m, (w.self+n/2)%c.g.Threads()), c.g, b.grain)
		}
		w.has = nil
	}
	c.look()
	for self := range c.g.Threads() {
		central.Flush(port.New(c.m, self), c.g)
	}
	if e := central.Trim(port.New(c.m, n%c.g.Threads()), c.g); e != api.OK {
		c.t.Fatalf("Trim = %d", e)
	}
	if what := clean(c.m, c.g); what != "" {
		c.t.Fatal(what)
	}
}

// busy is the first worker from i on that has not ended; -1, if all have.
func (c *crew) busy(i int) int {
	for ; i < len(c.workers); i++ {
		if c.workers[i].Busy() {
			return i
		}
	}
	return -1
}

// mixed is a number that tells of one and of what comes behind it.
func mixed(sum, w uint64) uint64 {
	sum = (sum ^ w ^ w>>29) * 1099511628211
	return sum ^ sum>>32 + 1
}

// state is what all that a crew may still do, and be held to, hangs on: what is in the memory, and what each worker was answered so far, told as one number.
func (c *crew) state() uint64 {
	sum := uint64(14695981039346656037)
	for at := range c.m.Words() {
		sum = mixed(sum, c.m.Word(at))
	}
	for _, w := range c.workers {
		sum = mixed(sum, w.answers)
		sum = mixed(sum, uint64(w.Steps()))
	}
	return sum
}

// rows steps crews in each row that there is, and is how many states these were in. Each row is the one before, but for its end, where the last worker that can give way to a later one does; one that comes to a state in which another row was is left there, as both go on alike.
func rows(begin func() *crew, ended func(c *crew)) int {
	met := map[uint64]bool{}
	var row []int
	last := 0 // where the row parts from the one before
	for {
		c := begin()
		var later []int // who could have been stepped in place of each of the row's
		for at := 0; c.busy(0) >= 0; at++ {
			if at == len(row) {
				row = append(row, c.busy(0))
			}
			later = append(later, c.busy(row[at]+1))
			if at < last {
				c.steps(row[at])
				continue
			}
			c.step(row[at])
			state := c.state()
			if met[state] {
				break
			}
			met[state] = true
		}
		if c.busy(0) < 0 {
			ended(c)
			c.ended()
		}
		for _, w := range c.workers {
			w.Close()
		}
		last = len(later) - 1
		for last >= 0 && later[last] < 0 {
			last--
		}
		if last < 0 {
			return len(met)
		}
		row = append(row[:last], later[last])
	}
}
