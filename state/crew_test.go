package state_test

import (
	"slices"
	"strconv"
	"testing"

	"quillet/api"
	"quillet/geom"
	"quillet/mem"
	"quillet/port"
	"quillet/state"
	"quillet/thread"
	"quillet/word"
)

// This file has the threads that the tests of many threads step, and what is to hold at each of their accesses: P14.4.

// fact is what is so of a grain: whether a live block begins there, and of what size and Ver.
type fact struct {
	live bool
	size int
	ver  uint32
}

// factOf tells it by the chapter's words alone: Live; or Pend, and its Other has Moved to it by its Ver.
func factOf(m *mem.Memory, g geom.Geom, grain int) fact {
	w := m.Word(g.State(grain))
	f := fact{true, int(w >> 2 & 65535), uint32(w >> 32)}
	switch w & 3 {
	case live:
		return f
	case pend:
		o := m.Word(g.State(int(w >> 18 & 4095)))
		if o&3 == moved && int(o>>18&4095) == grain && o>>32 == w>>32 {
			return f
		}
	}
	return fact{}
}

// The calls.
const (
	look = iota
	birth
	death
	resize
	promise
	move
	settle
	abort
)

// worker is a thread of a crew that does one body.
type worker struct {
	*thread.Thread
	self    int
	has     []int // the grains whose states are its own
	call    int   // what it does, and of which grains
	on, to  int
	size    int
	from    int          // how many accesses it had had when the call began
	before  map[int]fact // what was so of on ahead of each access of the call, and behind it
	behind  map[int]fact
	did     counts
	answers uint64 // what it was answered so far, and what was so then, told as one number
	closed  bool   // it was ended where it waits
	fault   string // what a call has done that it ought not to have
}

// counts is how often each thing was done, or was in vain.
type counts struct{ born, died, late, resized, moved, aborted, seen, unseen, settled, vain int }

func (c *counts) add(o counts) {
	c.born += o.born
	c.died += o.died
	c.late += o.late
	c.resized += o.resized
	c.moved += o.moved
	c.aborted += o.aborted
	c.seen += o.seen
	c.unseen += o.unseen
	c.settled += o.settled
	c.vain += o.vain
}

// deed is what a worker does.
type deed func(w *worker, p api.Port, g geom.Geom)

// faulty keeps the first fault: a test ends in its own goroutine alone.
func (w *worker) faulty(what string) {
	if w.fault == "" {
		w.fault = "thread " + strconv.Itoa(w.self) + ", call " + strconv.Itoa(w.call) + " of grain " + strconv.Itoa(w.on) + ": " + what
	}
}

// begins says what the worker does next.
func (w *worker) begins(p api.Port, call, on int) {
	w.call, w.on, w.from = call, on, p.Steps()
	clear(w.before)
	clear(w.behind)
}

// had holds the call that has ended to how many accesses it has had.
func (w *worker) had(p api.Port, n int) {
	if p.Steps()-w.from != n {
		w.faulty("it has " + strconv.Itoa(p.Steps()-w.from) + " accesses")
	}
}

// own is a grain that is the worker's.
func (w *worker) own(g geom.Geom, grain int) {
	if slices.Contains(w.has, grain) {
		w.faulty("it is the worker's already")
	}
	w.has = append(w.has, grain)
}

func (w *worker) leaves(grain int) {
	w.has = slices.DeleteFunc(w.has, func(has int) bool { return has == grain })
}

// isSeen holds a Seen to what was so at its Lin, which is one of the call's own accesses.
func (w *worker) isSeen(seen state.Seen) {
	f, ok := w.behind[seen.Lin]
	if seen.Live && w.call == death {
		f = w.before[seen.Lin]
	}
	if !ok {
		w.faulty("Lin is " + strconv.Itoa(seen.Lin))
	}
	if (f != fact{seen.Live, seen.S.Size, seen.S.Ver}) || !seen.Live && (seen.S != word.State{}) {
		w.faulty("what was seen is not what was so at Lin")
	}
}

// looks is a Look.
func (w *worker) looks(p api.Port, g geom.Geom, grain int) state.Seen {
	w.begins(p, look, grain)
	seen := state.Look(p, g, grain)
	w.isSeen(seen)
	if seen.Live {
		w.did.seen++
	} else {
		w.did.unseen++
	}
	return seen
}

// bears is a Birth of a grain that is the worker's.
func (w *worker) bears(p api.Port, g geom.Geom, grain, size int) {
	w.begins(p, birth, grain)
	w.size = size
	state.Birth(p, g, grain, size)
	w.had(p, 2)
	w.did.born++
}

// ends is a Death: the grain is the worker's then.
func (w *worker) ends(p api.Port, g geom.Geom, grain int) {
	w.begins(p, death, grain)
	seen := state.Death(p, g, grain)
	w.isSeen(seen)
	if !seen.Live {
		w.did.late++
		return
	}
	w.did.died++
	w.own(g, grain)
}

// sizes is a Look and a Resize.
func (w *worker) sizes(p api.Port, g geom.Geom, grain, size int) {
	seen := w.looks(p, g, grain)
	if !seen.Live {
		return
	}
	w.begins(p, resize, grain)
	w.size = size
	done := state.Resize(p, g, grain, seen.S, size)
	w.had(p, 2)
	if done {
		w.did.resized++
	}
}

// moves is a Look, and all that moves a block to a grain that is the worker's.
func (w *worker) moves(p api.Port, g geom.Geom, from, to, size int) {
	seen := w.looks(p, g, from)
	if !seen.Live {
		return
	}
	w.begins(p, promise, from)
	ver := state.Promise(p, g, to, from, size)
	w.had(p, 2)
	w.begins(p, move, from)
	w.to, w.size = to, size
	done := state.Move(p, g, from, seen.S, to, ver)
	w.had(p, 1)
	if !done {
		w.begins(p, abort, to)
		state.Abort(p, g, to)
		w.had(p, 1)
		w.own(g, to)
		w.did.aborted++
		return
	}
	w.begins(p, settle, from)
	state.Settle(p, g, to, from, size, ver)
	w.had(p, 2)
	w.own(g, from)
	w.did.moved++
}

// crew are workers that share a memory.
type crew struct {
	t       *testing.T
	g       geom.Geom
	m       *mem.Memory
	workers []*worker
	facts   []fact // what is so of each grain
	idle    []int  // the grains that nobody touches
	blocks  int    // how many were born and have not died
}

// newCrew is a crew in a memory of zeros, each of whose workers has some grains.
func newCrew(t *testing.T, g geom.Geom, has ...[]int) *crew {
	t.Helper()
	c := &crew{t: t, g: g, m: zeros(t, g), facts: make([]fact, 8*g.Pages())}
	for self := range g.Threads() {
		w := &worker{Thread: thread.New(self), self: self, before: map[int]fact{}, behind: map[int]fact{}}
		if self < len(has) {
			w.has = slices.Clone(has[self])
		}
		c.workers = append(c.workers, w)
	}
	for grain := range c.facts {
		if !slices.ContainsFunc(has, func(l []int) bool { return slices.Contains(l, grain) }) {
			c.idle = append(c.idle, grain)
		}
	}
	return c
}

// begin begins each worker's body.
func (c *crew) begin(bodies ...deed) {
	for self, b := range bodies {
		if w := c.workers[self]; b != nil {
			w.Start(func(p api.Port) { b(w, p, c.g) })
		}
	}
}

// step grants a worker its pending access, and holds what is so behind it to what its call may make of what was so; false, if the worker has ended.
func (c *crew) step(i int) bool {
	c.t.Helper()
	w := c.workers[i]
	a, ok := w.Pending()
	if !ok {
		return false
	}
	if w.Steps()-w.from > 10000 {
		c.t.Fatalf("thread %d: a call does not end", i)
	}
	v, _ := c.m.Do(a)
	now := make([]fact, len(c.facts))
	for grain := range now {
		now[grain] = factOf(c.m, c.g, grain)
	}
	n := w.Steps() + 1
	w.before[n], w.behind[n] = c.facts[w.on], now[w.on]
	w.answers = mixed(w.answers, v, number(c.facts[w.on]), number(now[w.on]))
	c.effect(w, a, v, now)
	c.facts = now
	w.Grant(v)
	if w.fault != "" {
		c.t.Fatal(w.fault)
	}
	return true
}

// effect holds what an access has changed of what is so to what the call's effect is; any other access changes nothing.
func (c *crew) effect(w *worker, a api.Access, v uint64, now []fact) {
	c.t.Helper()
	want := slices.Clone(c.facts)
	is := a.At == c.g.State(w.on)
	done := is && a.Kind == api.CAS && v != 0
	switch {
	case a.Kind == api.CAS && v == 0:
		w.did.vain++
	case w.call == birth && is && a.Kind == api.Store:
		c.neverLive(w, w.on)
		want[w.on] = fact{true, w.size, now[w.on].ver}
		c.blocks++
		w.leaves(w.on)
	case w.call == death && done && a.B == 0:
		c.wasLive(w)
		want[w.on] = fact{}
		c.blocks--
	case w.call == resize && done:
		c.wasLive(w)
		want[w.on] = fact{true, w.size, now[w.on].ver}
	case w.call == move && done:
		c.wasLive(w)
		c.neverLive(w, w.to)
		want[w.on], want[w.to] = fact{}, fact{true, w.size, now[w.to].ver}
	case w.call == promise && a.Kind == api.Store:
		w.leaves(a.At - c.g.State(0))
	case a.Kind == api.CAS:
		w.did.settled++
	}
	if !slices.Equal(now, want) {
		c.t.Fatalf("thread %d, call %d of grain %d: %+v makes %v of %v", w.self, w.call, w.on, a, now, c.facts)
	}
	if v := now[w.on].ver; v != c.facts[w.on].ver && v != 0 && w.call != settle && v%64 != uint32(w.self) {
		c.t.Fatalf("thread %d, call %d: the Ver %d is another thread's", w.self, w.call, v)
	}
}

func (c *crew) wasLive(w *worker) {
	c.t.Helper()
	if !c.facts[w.on].live {
		c.t.Fatalf("thread %d, call %d of grain %d: it was not live", w.self, w.call, w.on)
	}
}

func (c *crew) neverLive(w *worker, grain int) {
	c.t.Helper()
	if c.facts[grain].live {
		c.t.Fatalf("thread %d, call %d: grain %d is live already", w.self, w.call, grain)
	}
}

// done is how often each thing was done by all.
func (c *crew) done() counts {
	var all counts
	for _, w := range c.workers {
		all.add(w.did)
	}
	return all
}

// ended holds a crew, all of which do nothing any more, to this: what was born and has not ended is live, each at one place; each grain is live, or one thread's alone, or in the hands of one that was ended where it waited. Then each is ended once.
func (c *crew) ended() {
	c.t.Helper()
	at := make([]int, len(c.facts))
	for grain, f := range c.facts {
		if f.live {
			at[grain]++
		}
	}
	if n := sum(at); n != c.blocks {
		c.t.Fatalf("%d blocks are live, of %d that were born and not ended", n, c.blocks)
	}
	for _, grain := range c.idle {
		at[grain]++
	}
	closed := 0
	for _, w := range c.workers {
		if w.closed {
			closed++ // it has one grain in its hands at most
		}
		for _, grain := range w.has {
			at[grain]++
		}
	}
	for grain, n := range at {
		if n > 1 || n == 0 && closed == 0 {
			c.t.Fatalf("grain %d is in %d places", grain, n)
		}
		if n == 0 {
			closed--
		}
	}
	p := port.New(c.m, 0)
	for grain, f := range c.facts {
		seen := state.Death(p, c.g, grain)
		if (fact{seen.Live, seen.S.Size, seen.S.Ver}) != f || state.Death(p, c.g, grain).Live {
			c.t.Fatalf("grain %d, of which %v is so, is not ended once: %+v", grain, f, seen)
		}
	}
}

func sum(l []int) int {
	n := 0
	for _, v := range l {
		n += v
	}
	return n
}

// busy is the first worker from i on that has not ended; -1, if all have.
func (c *crew) busy(i int) int {
	for ; i < len(c.workers); i++ {
		if c.workers[i].Busy() {
			return i
		}
	}
	return -1
}

// mixed is a number that tells of one and of what comes behind it.
func mixed(sum uint64, l ...uint64) uint64 {
	for _, w := range l {
		sum = (sum ^ w ^ w>>29) * 1099511628211
		sum ^= sum>>32 + 1
	}
	return sum
}

// number tells a fact as one number.
func number(f fact) uint64 {
	if !f.live {
		return 0
	}
	return 1 + uint64(f.size)<<1 + uint64(f.ver)<<32
}

// state is what all that a crew may still do, and be held to, hangs on: what is in the memory, and what each worker was answered so far, and what was so then, told as one number.
func (c *crew) state() uint64 {
	n := uint64(14695981039346656037)
	for at := c.g.Serial(0); at < c.g.Cache(0, 0, 0); at++ {
		n = mixed(n, c.m.Word(at))
	}
	for _, w := range c.workers {
		n = mixed(n, w.answers, uint64(w.Steps()))
	}
	return n
}

// rows steps crews in each row that there is, and is how many states these were in. Each row is the one before, but for its end, where the last worker that can give way to a later one does; one that comes to a state in which another row was is left there, as both go on alike.
func rows(begin func() *crew, ended func(c *crew)) int {
	met := map[uint64]bool{}
	var row []int
	last := 0 // where the row parts from the one before
	for {
		c := begin()
		var later []int // who could have been stepped in place of each of the row's
		for at := 0; c.busy(0) >= 0; at++ {
			if at == len(row) {
				row = append(row, c.busy(0))
			}
			later = append(later, c.busy(row[at]+1))
			c.step(row[at])
			state := c.state()
			if at >= last && met[state] {
				break
			}
			met[state] = true
		}
		if c.busy(0) < 0 {
			ended(c)
			c.ended()
		}
		for _, w := range c.workers {
			w.Close()
		}
		last = len(later) - 1
		for last >= 0 && later[last] < 0 {
			last--
		}
		if last < 0 {
			return len(met)
		}
		row = append(row[:last], later[last])
	}
}
