package lock_test

import (
	"math"
	"slices"
	"testing"

	"quillet/api"
	"quillet/geom"
	"quillet/lock"
	"quillet/mem"
	"quillet/port"
	"quillet/thread"
)

// The tests name the promises of shared/doc/07-lock.md that they hold the package to.

// place is where the lock stands in each arena, by chapter 2; work is a word beside it, the epoch's, which those who hold the lock count on with.
const (
	place = 0
	work  = 1
)

// arena is the geometry of an arena that there can be.
func arena(t *testing.T, pages, threads int) geom.Geom {
	t.Helper()
	g, ok := geom.New(pages, threads)
	if !ok || g.Lock() != place || g.Epoch() != work {
		t.Fatalf("geom.New(%d, %d): %v", pages, threads, ok)
	}
	return g
}

// put lays a word of a memory.
func put(m *mem.Memory, at int, w uint64) {
	m.Do(api.Access{Kind: api.Store, At: at, A: w})
}

// memory is one of the arena's words and bytes, of which the lock is w, and each other one what fill says.
func memory(t *testing.T, g geom.Geom, w uint64, fill func(at int) uint64) *mem.Memory {
	t.Helper()
	m, e := mem.New(g.Words(), g.Pages()*api.Page)
	if e != api.OK {
		t.Fatalf("mem.New: %d", e)
	}
	for at := range m.Words() {
		put(m, at, fill(at))
	}
	for at := range m.Bytes() {
		m.Do(api.Access{Kind: api.Put, At: at, A: fill(at)})
	}
	put(m, place, w)
	return m
}

// nought and unlike fill a memory: with words that are all 0, with words none of which is another one.
func nought(int) uint64    { return 0 }
func unlike(at int) uint64 { return uint64(at)*0x9e3779b97f4a7c15 + 0x1234567 }

// watch is a port that writes down its accesses. Ahead of each of them it does what meanwhile says, which is told how many there were.
type watch struct {
	*port.Direct
	seen      []api.Access
	told      int
	meanwhile func(n int)
}

func (w *watch) note(a api.Access) {
	if w.meanwhile != nil {
		w.meanwhile(len(w.seen))
	}
	w.seen = append(w.seen, a)
}

func (w *watch) Load(at int) uint64 {
	w.note(api.Access{Kind: api.Load, At: at})
	return w.Direct.Load(at)
}

func (w *watch) Store(at int, v uint64) {
	w.note(api.Access{Kind: api.Store, At: at, A: v})
	w.Direct.Store(at, v)
}

func (w *watch) CAS(at int, old, new uint64) bool {
	w.note(api.Access{Kind: api.CAS, At: at, A: old, B: new})
	return w.Direct.CAS(at, old, new)
}

func (w *watch) Add(at int, n uint64) uint64 {
	w.note(api.Access{Kind: api.Add, At: at, A: n})
	return w.Direct.Add(at, n)
}

func (w *watch) Get(at int) byte {
	w.note(api.Access{Kind: api.Get, At: at})
	return w.Direct.Get(at)
}

func (w *watch) Put(at int, b byte) {
	w.note(api.Access{Kind: api.Put, At: at, A: uint64(b)})
	w.Direct.Put(at, b)
}

func (w *watch) Tell(r api.Result) {
	w.told++
	w.Direct.Tell(r)
}

// watched is a port of a thread to a memory that writes down.
func watched(m *mem.Memory, self int) *watch {
	return &watch{Direct: port.New(m, self)}
}

// TestExamples: P7.1, the chapter's examples.
func TestExamples(t *testing.T) {
	g := arena(t, 1, 2)
	m := memory(t, g, 0, nought)
	ports := []*port.Direct{port.New(m, 0), port.New(m, 1)}
	for i, x := range []struct {
		self int
		does func(api.Port, geom.Geom) bool
		want bool
	}{
		{0, lock.Try, true}, {1, lock.Try, false}, {0, lock.Try, false},
		{1, lock.Drop, false}, {0, lock.Drop, true}, {1, lock.Try, true},
	} {
		if got := x.does(ports[x.self], g); got != x.want {
			t.Errorf("call %d, of thread %d: %v, want %v", i, x.self, got, x.want)
		}
	}
	for _, x := range []struct {
		w    uint64
		want int
	}{{0, -1}, {1, 0}, {64, 63}, {65, -1}} {
		if got := lock.Holder(x.w); got != x.want {
			t.Errorf("Holder(%d) = %d, want %d", x.w, got, x.want)
		}
	}
}

// TestHolder: P7.1, 0, each thread's, and what none below 64 puts there: what is a thread's in its lowest bits alone among them.
func TestHolder(t *testing.T) {
	for self := range 64 {
		if got := lock.Holder(uint64(self) + 1); got != self {
			t.Errorf("Holder(%d) = %d", self+1, got)
		}
	}
	none := []uint64{0, math.MaxUint64, math.MaxUint64 - 1, math.MaxInt64, math.MaxUint32, 1<<63 + 1, 1<<63 + 64}
	for w := uint64(65); w < 5000; w++ {
		none = append(none, w)
	}
	for bit := 7; bit < 64; bit++ {
		for low := range uint64(66) {
			none = append(none, 1<<bit+low, 1<<bit-1, -low-1)
		}
	}
	for _, w := range none {
		if got := lock.Holder(w); got != -1 {
			t.Errorf("Holder(%#x) = %d, want -1", w, got)
		}
	}
}

// locks are what the lock may be that a thread meets: free, each thread's, its own among them, and words that no thread puts there.
func locks() []uint64 {
	l := []uint64{65, 66, 128, 256 + 1, 1<<32 + 1, 1<<32 + 64, 1 << 32, 1 << 63, 1<<63 + 1, math.MaxUint64 - 1, math.MaxUint64}
	for w := range uint64(65) {
		l = append(l, w)
	}
	return l
}

// calls does one of both for a thread at a lock that is w, and holds to what is asked: the answer, the accesses, and that nothing else is touched.
func calls(t *testing.T, name string, does func(api.Port, geom.Geom) bool, g geom.Geom, self int, w uint64, fill func(int) uint64, old, new uint64, tries int) {
	t.Helper()
	m := memory(t, g, w, fill)
	want := m.Copy()
	one := api.Access{Kind: api.CAS, At: place, A: old, B: new}
	seen := []api.Access{one}
	if w == old {
		put(want, place, new)
	} else {
		seen = slices.Repeat(seen, tries)
	}
	p := watched(m, self)
	if got := does(p, g); got != (w == old) {
		t.Errorf("thread %d, lock %#x: %s = %v", self, w, name, got)
	}
	if !slices.Equal(p.seen, seen) || p.Steps() != len(seen) {
		t.Errorf("thread %d, lock %#x: %s has the accesses %v, want %v", self, w, name, p.seen, seen)
	}
	if !mem.Same(m, want) {
		t.Errorf("thread %d, lock %#x: %s: the lock is %#x, want %#x, or another word was touched", self, w, name, m.Word(place), want.Word(place))
	}
	if p.told != 0 {
		t.Errorf("thread %d, lock %#x: %s tells what only a call tells", self, w, name)
	}
}

// TestTry: P7.1, P7.2, each thread, at a lock that is free, its own, another one's, or none's: one access, or three of them in vain.
func TestTry(t *testing.T) {
	g := arena(t, 1, 2)
	for self := range 64 {
		mine := func(int) uint64 { return uint64(self) + 1 }
		for _, w := range locks() {
			for _, fill := range []func(int) uint64{nought, unlike, mine} {
				calls(t, "Try", lock.Try, g, self, w, fill, 0, uint64(self)+1, 3)
			}
		}
	}
}

// TestDrop: P7.1, P7.2, likewise: one access, whatever the lock is.
func TestDrop(t *testing.T) {
	g := arena(t, 1, 2)
	for self := range 64 {
		mine := func(int) uint64 { return uint64(self) + 1 }
		for _, w := range locks() {
			for _, fill := range []func(int) uint64{nought, unlike, mine} {
				calls(t, "Drop", lock.Drop, g, self, w, fill, uint64(self)+1, 0, 1)
			}
		}
	}
}

// TestArenas: P7.1, P7.2, arenas at the edges: the lock is the same word, and no other one of theirs is touched.
func TestArenas(t *testing.T) {
	for _, x := range [][2]int{{1, 1}, {1, 64}, {256, 1}, {256, 64}, {7, 3}} {
		g := arena(t, x[0], x[1])
		for _, w := range []uint64{0, 1, 2, 64, 65} {
			for _, self := range []int{0, 1, 63} {
				calls(t, "Try", lock.Try, g, self, w, unlike, 0, uint64(self)+1, 3)
				calls(t, "Drop", lock.Drop, g, self, w, unlike, uint64(self)+1, 0, 1)
			}
		}
	}
}

// TestTryMeets: P7.1, P7.2, what the lock is changes between the accesses: the first at which it is free takes it, and there are three at most.
func TestTryMeets(t *testing.T) {
	g := arena(t, 1, 2)
	meets := []uint64{0, 6, 9, 64, 65, math.MaxUint64} // 6 is the thread's own
	for _, first := range meets {
		for _, second := range meets {
			for _, third := range meets {
				met := []uint64{first, second, third, 0, 0}
				m := memory(t, g, 7, unlike)
				p := watched(m, 5)
				p.meanwhile = func(n int) { put(m, place, met[min(n, 4)]) }
				free := slices.Index(met, 0)
				steps, last := free+1, uint64(6)
				if free > 2 {
					steps, last = 3, third
				}
				if got := lock.Try(p, g); got != (free <= 2) || p.Steps() != steps || m.Word(place) != last {
					t.Errorf("locks %v: Try = %v, of %d accesses, and the lock is %#x; want %d and %#x", met[:3], got, p.Steps(), m.Word(place), steps, last)
				}
			}
		}
	}
}

// TestDropMeets: P7.1, P7.2, what the lock is at Drop's access is what counts, not what it was.
func TestDropMeets(t *testing.T) {
	g := arena(t, 1, 2)
	for _, was := range locks() {
		for _, met := range locks() {
			m := memory(t, g, was, unlike)
			p := watched(m, 5)
			p.meanwhile = func(int) { put(m, place, met) }
			last := met
			if met == 6 {
				last = 0
			}
			if got := lock.Drop(p, g); got != (met == 6) || p.Steps() != 1 || m.Word(place) != last {
				t.Errorf("locks %#x, %#x: Drop = %v, of %d accesses, and the lock is %#x", was, met, got, p.Steps(), m.Word(place))
			}
		}
	}
}

// TestTakenAtOnce: P7.3, a free lock is taken at the first access, by each thread behind each other one; who holds it does not get it again, and no other one gets or drops it.
func TestTakenAtOnce(t *testing.T) {
	g := arena(t, 1, 64)
	m := memory(t, g, 0, nought)
	var ports []*port.Direct
	for self := range 64 {
		ports = append(ports, port.New(m, self))
	}
	does := func(self int, what func(api.Port, geom.Geom) bool, want bool, steps int) {
		t.Helper()
		p := ports[self]
		p.Fresh()
		if got := what(p, g); got != want || p.Steps() != steps {
			t.Errorf("thread %d: %v, of %d accesses, want %v, of %d", self, got, p.Steps(), want, steps)
		}
	}
	for self := range 64 {
		does(self, lock.Drop, false, 1)
		does(self, lock.Try, true, 1)
		for other := range 64 {
			does(other, lock.Try, false, 3)
			if other != self {
				does(other, lock.Drop, false, 1)
			}
			if got := lock.Holder(m.Word(place)); got != self {
				t.Fatalf("thread %d holds it, told is %d", self, got)
			}
		}
		does(self, lock.Drop, true, 1)
		does(self, lock.Drop, false, 1)
		if got := lock.Holder(m.Word(place)); got != -1 {
			t.Fatalf("nobody holds it, told is %d", got)
		}
	}
}

// TestNothingIsKept: P7.1, R3, what is answered hangs on the memory alone: the lock of one memory is not that of another.
func TestNothingIsKept(t *testing.T) {
	g := arena(t, 1, 2)
	first, second := port.New(memory(t, g, 0, nought), 0), port.New(memory(t, g, 0, nought), 0)
	if !lock.Try(first, g) || !lock.Try(second, g) || lock.Try(first, g) || !lock.Drop(first, g) || lock.Try(second, g) || !lock.Drop(second, g) {
		t.Error("two memories share one lock")
	}
}

// TestNoLock: P7.1, P7.2, R1, a geometry of no pages has no lock, a memory without words or none has not its word: the accesses are in vain.
func TestNoLock(t *testing.T) {
	whole := arena(t, 1, 2)
	empty, _ := mem.New(0, 0)
	for _, w := range locks() {
		for _, x := range []struct {
			m *mem.Memory
			g geom.Geom
		}{{memory(t, whole, w, unlike), geom.Geom{}}, {empty, whole}, {nil, whole}} {
			was := x.m.Copy()
			for _, self := range []int{0, 1, 63} {
				p := watched(x.m, self)
				if lock.Try(p, x.g) || p.Steps() != 3 {
					t.Errorf("no lock: Try takes it, or has %d accesses", p.Steps())
				}
				p.Fresh()
				if lock.Drop(p, x.g) || p.Steps() != 1 {
					t.Errorf("no lock: Drop drops it, or has %d accesses", p.Steps())
				}
				if !mem.Same(x.m, was) {
					t.Error("no lock: a word is touched")
				}
			}
		}
	}
}

// TestOtherNumbers: P7.2, R1, a port whose number is no thread's: as many accesses, all of the lock, and no panic.
func TestOtherNumbers(t *testing.T) {
	g := arena(t, 1, 2)
	for _, self := range []int{64, 65, -1, -2, -64, 1 << 32, math.MinInt, math.MaxInt} {
		for _, w := range append(locks(), uint64(self)+1, uint64(self)) {
			m := memory(t, g, w, unlike)
			p := watched(m, self)
			lock.Try(p, g)
			if tries := p.Steps(); tries < 1 || tries > 3 || (w == 0) != (tries == 1) {
				t.Errorf("number %d, lock %#x: Try has %d accesses", self, w, tries)
			}
			p.Fresh()
			lock.Drop(p, g)
			if p.Steps() != 1 {
				t.Errorf("number %d, lock %#x: Drop has %d accesses", self, w, p.Steps())
			}
			for _, a := range p.seen {
				if a.Kind != api.CAS || a.At != place {
					t.Errorf("number %d, lock %#x: an access %v", self, w, a)
				}
			}
			if !mem.Same(m, memory(t, g, m.Word(place), unlike)) {
				t.Errorf("number %d, lock %#x: another word is touched", self, w)
			}
		}
	}
}

// worker is a thread that tries, adds 1 to a word by a Load and a Store, which another one's between would undo, and drops the lock.
type worker struct {
	*thread.Thread
	self    int
	took    bool
	tries   int
	dropped bool
}

// crew are threads by these numbers, each of which is begun, and the memory that they share.
type crew struct {
	t       *testing.T
	g       geom.Geom
	m       *mem.Memory
	workers []*worker
}

// begun is a crew, each of which has begun.
func begun(t *testing.T, g geom.Geom, numbers ...int) *crew {
	t.Helper()
	c := &crew{t: t, g: g, m: memory(t, g, 0, nought)}
	for _, self := range numbers {
		w := &worker{Thread: thread.New(self), self: self}
		c.workers = append(c.workers, w)
		w.Start(func(p api.Port) { w.does(p, g) })
	}
	return c
}

// does is a worker's body.
func (w *worker) does(p api.Port, g geom.Geom) {
	w.took = lock.Try(p, g)
	w.tries = p.Steps()
	if !w.took {
		return
	}
	p.Store(work, p.Load(work)+1)
	w.dropped = lock.Drop(p, g)
}

// step grants a worker its pending access, and looks who holds the lock; false, if the worker has ended.
func (c *crew) step(i int) bool {
	c.t.Helper()
	w := c.workers[i]
	a, ok := w.Pending()
	if !ok {
		return false
	}
	v, _ := c.m.Do(a)
	w.Grant(v)
	holder := -1
	for _, w := range c.workers {
		if w.took && w.Busy() {
			if holder >= 0 {
				c.t.Fatalf("threads %d and %d hold it at a time", holder, w.self)
			}
			holder = w.self
		}
	}
	if got := lock.Holder(c.m.Word(place)); got != holder {
		c.t.Fatalf("thread %d holds it, told is %d", holder, got)
	}
	return true
}

// run steps a worker up to its end.
func (c *crew) run(i int) {
	c.t.Helper()
	for c.step(i) {
	}
}

// ended holds a crew, all of which have ended, to what they ought to have done.
func (c *crew) ended(row []int) {
	c.t.Helper()
	var took uint64
	for _, w := range c.workers {
		if w.Busy() {
			c.t.Fatalf("row %v: thread %d has not ended", row, w.self)
		}
		steps := 3
		if w.took {
			took++
			steps = w.tries + 3
		}
		if w.tries < 1 || w.tries > 3 || w.took != w.dropped || w.Steps() != steps {
			c.t.Fatalf("row %v: thread %d took it: %v, by %d accesses, dropped it: %v, %d accesses in all", row, w.self, w.took, w.tries, w.dropped, w.Steps())
		}
	}
	if took < 1 || c.m.Word(place) != 0 || c.m.Word(work) != took {
		c.t.Fatalf("row %v: %d threads took it, %d were counted, and the lock is %#x", row, took, c.m.Word(work), c.m.Word(place))
	}
}

// busy is the first worker from i on that has not ended; -1, if all have.
func (c *crew) busy(i int) int {
	for ; i < len(c.workers); i++ {
		if c.workers[i].Busy() {
			return i
		}
	}
	return -1
}

// rows steps a crew in each row that there is, and is how many there are. Each row is the one before, but for its end, where the last worker that can give way to a later one does.
func rows(t *testing.T, g geom.Geom, numbers ...int) int {
	t.Helper()
	var row []int
	for n := 1; ; n++ {
		c := begun(t, g, numbers...)
		var later []int // who could have been stepped in place of each of the row's
		for at := 0; c.busy(0) >= 0; at++ {
			if at == len(row) {
				row = append(row, c.busy(0))
			}
			later = append(later, c.busy(row[at]+1))
			c.step(row[at])
		}
		c.ended(row)
		last := len(row) - 1
		for last >= 0 && later[last] < 0 {
			last--
		}
		if last < 0 {
			return n
		}
		row = append(row[:last], later[last])
	}
}

// TestAnyRowOfTwo: P7.3, two threads, in each row of their accesses: one at most holds the lock, and nothing that was done with it is lost.
func TestAnyRowOfTwo(t *testing.T) {
	if n := rows(t, arena(t, 1, 2), 0, 1); n < 30 {
		t.Errorf("%d rows", n)
	}
	if n := rows(t, arena(t, 1, 64), 63, 62); n < 30 {
		t.Errorf("%d rows", n)
	}
}

// TestAnyRowOfThree: P7.3, three threads, likewise.
func TestAnyRowOfThree(t *testing.T) {
	if n := rows(t, arena(t, 1, 3), 2, 0, 1); n < 1000 {
		t.Errorf("%d rows", n)
	}
}

// TestLongRows: P7.3, all 64 threads, in rows that a short rule tells.
func TestLongRows(t *testing.T) {
	g := arena(t, 1, 64)
	numbers := make([]int, 64)
	for i := range numbers {
		numbers[i] = i
	}
	for seed := range uint64(40) {
		c := begun(t, g, numbers...)
		next := seed
		for busy := 64; busy > 0; {
			next = next*6364136223846793005 + 1442695040888963407
			first := int(next>>33) % 64
			for i := range 64 { // the first one from there on that has not ended
				w := c.workers[(first+i)%64]
				if w.Busy() {
					c.step((first + i) % 64)
					if !w.Busy() {
						busy--
					}
					break
				}
			}
		}
		c.ended(nil)
	}
}

// TestStandsStill: P7.2, P7.3, a thread stands still at each of its accesses while others call: each of these ends by its own accesses alone, and has the lock just if the first one has not.
func TestStandsStill(t *testing.T) {
	g := arena(t, 1, 64)
	for stood := range 5 {
		c := begun(t, g, 9, 0, 63, 10)
		first := c.workers[0]
		for range stood {
			c.step(0)
		}
		has := first.took && first.Busy()
		for i, w := range c.workers[1:] {
			c.run(i + 1)
			steps := 4
			if has {
				steps = 3
			}
			if w.took == has || w.Steps() != steps {
				t.Errorf("one stands still at access %d: thread %d took the lock: %v, by %d accesses", stood, w.self, w.took, w.Steps())
			}
		}
		c.run(0)
		if !first.took || first.Steps() != 4 {
			t.Errorf("one stood still at access %d, and took the lock: %v, by %d accesses", stood, first.took, first.Steps())
		}
		c.ended(nil)
	}
}

// TestStandsStillInVain: P7.2, P7.3, a thread stands still at each of its tries while another one takes the lock, or takes it and drops it.
func TestStandsStillInVain(t *testing.T) {
	g := arena(t, 1, 2)
	for tried := range 3 {
		for _, drops := range []bool{false, true} {
			c := begun(t, g, 0, 1)
			holder, late := c.workers[0], c.workers[1]
			c.step(0)
			for range tried {
				c.step(1)
			}
			if !holder.took || !late.Busy() || late.took {
				t.Fatalf("behind %d tries: one took the lock: %v, the other one: %v", tried, holder.took, late.took)
			}
			if drops {
				c.run(0)
			}
			c.run(1)
			want := 3
			if drops {
				want = tried + 1
			}
			if late.took != drops || late.tries != want {
				t.Errorf("behind %d tries: the lock is dropped: %v; Try takes it: %v, by %d accesses", tried, drops, late.took, late.tries)
			}
			c.run(0)
			c.ended(nil)
		}
	}
}

// TestEndedWithTheLock: P7.3, a thread that is ended where it holds the lock leaves it as it is: nobody gets it, each is told so behind three accesses.
func TestEndedWithTheLock(t *testing.T) {
	g := arena(t, 1, 3)
	c := begun(t, g, 2)
	c.step(0)
	c.workers[0].Close()
	for self := range 64 {
		p := port.New(c.m, self)
		if lock.Try(p, g) || p.Steps() != 3 || lock.Holder(c.m.Word(place)) != 2 {
			t.Errorf("thread %d: the lock is %#x", self, c.m.Word(place))
		}
	}
}
