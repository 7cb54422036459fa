package port_test

import (
	"math"
	"testing"

	"quillet/api"
	"quillet/mem"
	"quillet/port"
)

// The tests name the promises of shared/doc/04-port.md that they hold the package to.

// made is a memory that has to be one.
func made(t *testing.T, words, bytes int) *mem.Memory {
	t.Helper()
	m, e := mem.New(words, bytes)
	if e != api.OK {
		t.Fatalf("New(%d, %d): error %d", words, bytes, e)
	}
	return m
}

// filled is a memory in which no two words, and no two bytes, are the same, and none is 0 (up to 255 bytes).
func filled(t *testing.T, words, bytes int) *mem.Memory {
	t.Helper()
	m := made(t, words, bytes)
	for i := range words {
		m.Do(api.Access{Kind: api.Store, At: i, A: 0xf0e1d2c3b4a50000 + uint64(i)})
	}
	for i := range bytes {
		m.Do(api.Access{Kind: api.Put, At: i, A: uint64(i) + 1})
	}
	return m
}

// asked is what a port answers to an access, as a number: that of a CAS that was done is 1, and of what answers nothing 0.
func asked(p api.Port, a api.Access) uint64 {
	switch a.Kind {
	case api.Load:
		return p.Load(a.At)
	case api.Store:
		p.Store(a.At, a.A)
	case api.CAS:
		if p.CAS(a.At, a.A, a.B) {
			return 1
		}
	case api.Add:
		return p.Add(a.At, a.A)
	case api.Get:
		return uint64(p.Get(a.At))
	case api.Put:
		p.Put(a.At, byte(a.A))
	}
	return 0
}

// answers asks a port for an access, holds it to an answer, and its memory to what it should be then.
func answers(t *testing.T, d *port.Direct, a api.Access, want uint64, m, then *mem.Memory) {
	t.Helper()
	steps := d.Steps()
	if got := asked(d, a); got != want {
		t.Fatalf("%+v: %#x, want %#x", a, got, want)
	}
	if !mem.Same(m, then) {
		t.Fatalf("%+v: the memory is not what it should be", a)
	}
	if d.Steps() != steps+1 {
		t.Fatalf("%+v: from %d steps to %d", a, steps, d.Steps())
	}
}

// with is a copy of a memory in which a word is another one; withByte one in which a byte is.
func with(m *mem.Memory, at int, v uint64) *mem.Memory {
	c := m.Copy()
	c.Do(api.Access{Kind: api.Store, At: at, A: v})
	return c
}

func withByte(m *mem.Memory, at int, b byte) *mem.Memory {
	c := m.Copy()
	c.Do(api.Access{Kind: api.Put, At: at, A: uint64(b)})
	return c
}

// noNumbers are some that are none of n.
func noNumbers(n int) []int {
	return []int{n, n + 1, 2*n + 1, -1, -2, -n - 1, 1 << 20, 1 << 21, 1 << 32, math.MaxInt32, math.MinInt32, math.MaxInt, math.MinInt}
}

// tellsSteps holds a port to how many accesses it has done.
func tellsSteps(t *testing.T, d *port.Direct, want int) {
	t.Helper()
	if got := d.Steps(); got != want {
		t.Fatalf("%d steps, want %d", got, want)
	}
}

// tellsTold holds a port to what was told last; tellsNothing to that nothing was.
func tellsTold(t *testing.T, d *port.Direct, want api.Result) {
	t.Helper()
	if got, ok := d.Told(); !ok || got != want {
		t.Fatalf("told %+v, %v, want %+v", got, ok, want)
	}
}

func tellsNothing(t *testing.T, d *port.Direct) {
	t.Helper()
	if got, ok := d.Told(); ok || got != (api.Result{}) {
		t.Fatalf("told %+v, %v", got, ok)
	}
}

// result is one that has something in each of its fields, other ones for another n.
func result(n int) api.Result {
	u := uint64(n)
	return api.Result{
		At: n, N: n + 1, Byte: byte(n + 2),
		C: api.Counts{Allocs: u + 3, Frees: u + 4, Failures: u + 5, Live: u + 6, Bytes: u + 7},
		E: api.ErrNoMem, Lin: n + 8, Touch: n + 9,
	}
}

// TestExamples: P4.1, P4.2, the chapter's examples.
func TestExamples(t *testing.T) {
	d := port.New(made(t, 4, 8), 0)
	d.Store(1, 5)
	if !d.CAS(1, 5, 7) || d.CAS(1, 5, 9) || d.Add(1, 3) != 7 || d.Load(1) != 10 || d.Steps() != 5 {
		t.Errorf("the first row: %d, in %d steps", d.Load(1), d.Steps())
	}
	d = port.New(made(t, 4, 8), 0)
	d.Put(7, 9)
	if d.Get(7) != 9 || d.Load(4) != 0 || d.CAS(4, 0, 1) {
		t.Errorf("the second row: byte %d, word %d", d.Get(7), d.Load(4))
	}
	d.Put(8, 1)
	tellsSteps(t, d, 5)
}

// TestIsPort: P4.1, what New makes is a port of a thread, for who asks for no more than that.
func TestIsPort(t *testing.T) {
	var p api.Port = port.New(made(t, 1, 1), 3)
	p.Store(0, 7)
	p.Put(0, 8)
	if p.Load(0) != 7 || p.Get(0) != 8 || p.Self() != 3 || p.Steps() != 4 {
		t.Errorf("word %d, byte %d, thread %d, %d steps", p.Load(0), p.Get(0), p.Self(), p.Steps())
	}
}

// TestNew: P4.1, P4.2, a port of its thread, whatever its number is; it has done and told nothing, and the memory stays.
func TestNew(t *testing.T) {
	m := filled(t, 3, 3)
	was := m.Copy()
	for _, self := range []int{0, 1, 2, 63, 64, -1, math.MaxInt, math.MinInt} {
		for _, to := range []*mem.Memory{m, nil} {
			d := port.New(to, self)
			if d == nil || d.Self() != self {
				t.Fatalf("New(.., %d): thread %d", self, d.Self())
			}
			tellsSteps(t, d, 0)
			tellsNothing(t, d)
		}
	}
	if !mem.Same(m, was) {
		t.Errorf("New changes the memory")
	}
}

// TestLoad: P4.1, each word, the first and the last one too: what is there, and it stays.
func TestLoad(t *testing.T) {
	m := filled(t, 5, 3)
	was := m.Copy()
	d := port.New(m, 0)
	for at := range 5 {
		answers(t, d, api.Access{Kind: api.Load, At: at}, was.Word(at), m, was)
		answers(t, d, api.Access{Kind: api.Load, At: at}, was.Word(at), m, was)
	}
}

// TestStore: P4.1, the word is there, whatever was; no other one.
func TestStore(t *testing.T) {
	for at := range 5 {
		m := filled(t, 5, 3)
		d := port.New(m, 0)
		for _, v := range []uint64{7, 7, math.MaxUint64, 1 << 63, 1 << 32, 0, 1} {
			answers(t, d, api.Access{Kind: api.Store, At: at, A: v}, 0, m, with(m, at, v))
			answers(t, d, api.Access{Kind: api.Load, At: at}, v, m, m)
		}
	}
}

// TestCAS: P4.1, new is there just if old was, which is told; each bit of what was there counts.
func TestCAS(t *testing.T) {
	for at := range 5 {
		m := filled(t, 5, 3)
		d := port.New(m, 0)
		for _, v := range []uint64{math.MaxUint64, 0, 1, 1 << 63, 5, 5} {
			was := m.Word(at)
			for bit := range 64 {
				answers(t, d, api.Access{Kind: api.CAS, At: at, A: was ^ 1<<bit, B: v + 1}, 0, m, m.Copy())
			}
			answers(t, d, api.Access{Kind: api.CAS, At: at, A: was, B: v}, 1, m, with(m, at, v))
		}
	}
}

// TestAdd: P4.1, what was there is told, and n more is there; sums that pass 2^64 wrap round.
func TestAdd(t *testing.T) {
	for at := range 5 {
		m := made(t, 5, 3)
		d := port.New(m, 0)
		was := uint64(0)
		for _, x := range []struct{ more, sum uint64 }{
			{0, 0}, {3, 3}, {math.MaxUint64, 2}, {math.MaxUint64 - 2, math.MaxUint64},
			{1, 0}, {math.MaxUint64, math.MaxUint64}, {math.MaxUint64, math.MaxUint64 - 1},
			{2, 0}, {1 << 63, 1 << 63}, {1 << 63, 0},
		} {
			answers(t, d, api.Access{Kind: api.Add, At: at, A: x.more}, was, m, with(m, at, x.sum))
			was = x.sum
		}
	}
}

// TestGetAndPut: P4.1, each byte of each number, the first and the last one too, and no other one.
func TestGetAndPut(t *testing.T) {
	for at := range 5 {
		m := filled(t, 3, 5)
		d := port.New(m, 0)
		answers(t, d, api.Access{Kind: api.Get, At: at}, uint64(at)+1, m, m.Copy())
		for b := range 256 {
			answers(t, d, api.Access{Kind: api.Put, At: at, A: uint64(b)}, 0, m, withByte(m, at, byte(b)))
			answers(t, d, api.Access{Kind: api.Get, At: at}, uint64(b), m, m.Copy())
		}
	}
}

// TestOutOfBounds: P4.1, P4.2, numbers below 0, at the end and beyond it, of memories with more words than bytes, the other way round, and with none of one kind: 0, false, nothing is changed, and it is a step.
func TestOutOfBounds(t *testing.T) {
	for _, x := range [][2]int{{1, 1}, {4, 8}, {8, 4}, {3, 0}, {0, 3}, {0, 0}} {
		m := filled(t, x[0], x[1])
		was := m.Copy()
		d := port.New(m, 0)
		for _, kind := range []uint8{api.Load, api.Store, api.CAS, api.Add} {
			for _, at := range noNumbers(x[0]) {
				answers(t, d, api.Access{Kind: kind, At: at, A: 0, B: 7}, 0, m, was)
				answers(t, d, api.Access{Kind: kind, At: at, A: 1, B: 7}, 0, m, was)
			}
		}
		for _, kind := range []uint8{api.Get, api.Put} {
			for _, at := range noNumbers(x[1]) {
				answers(t, d, api.Access{Kind: kind, At: at, A: 7}, 0, m, was)
			}
		}
	}
}

// TestNilMemory: P4.1, P4.2, a port to none answers 0 and false to all; what it did are steps, and what is told is told.
func TestNilMemory(t *testing.T) {
	d := port.New(nil, 5)
	steps := 0
	for _, at := range append(noNumbers(1), 0) {
		for kind := uint8(api.Load); kind <= api.Put; kind++ {
			answers(t, d, api.Access{Kind: kind, At: at, A: 0, B: 1}, 0, nil, nil)
			steps++
			tellsSteps(t, d, steps)
		}
	}
	tellsNothing(t, d)
	d.Tell(result(3))
	tellsTold(t, d, result(3))
	d.Fresh()
	tellsSteps(t, d, 0)
	tellsNothing(t, d)
	if d.Self() != 5 {
		t.Errorf("thread %d", d.Self())
	}
}

// TestSteps: P4.2, each of the six counts, by itself and out of bounds too; nothing else does. Fresh counts anew, and the memory and the thread stay.
func TestSteps(t *testing.T) {
	for kind := uint8(api.Load); kind <= api.Put; kind++ {
		m := filled(t, 2, 2)
		d := port.New(m, 9)
		for call := range 3 {
			tellsSteps(t, d, 0)
			for i := 1; i <= call+2; i++ {
				asked(d, api.Access{Kind: kind, At: i - 1, A: uint64(i)}) // the later ones are out of bounds
				tellsSteps(t, d, i)
			}
			d.Tell(result(1))
			d.Told()
			d.Self()
			tellsSteps(t, d, call+2)
			was := m.Copy()
			d.Fresh()
			if !mem.Same(m, was) || d.Self() != 9 {
				t.Errorf("Fresh changes the memory, or the thread: %d", d.Self())
			}
		}
	}
}

// TestCASCounts: P4.2, a CAS that is not done is a step, as one that is.
func TestCASCounts(t *testing.T) {
	d := port.New(made(t, 1, 0), 0)
	if d.CAS(0, 1, 2) || !d.CAS(0, 0, 2) || d.CAS(0, 0, 3) {
		t.Errorf("the word is %d", d.Load(0))
	}
	tellsSteps(t, d, 3)
}

// TestTell: P4.2, the last one is told, all of it, as often as it is asked for; a zero one, too. Told before Fresh is not told behind it.
func TestTell(t *testing.T) {
	d := port.New(made(t, 1, 1), 0)
	d.Fresh()
	tellsNothing(t, d)
	for _, r := range []api.Result{result(1), result(2), {}, result(-40), result(math.MaxInt - 9), {E: api.ErrBusy}} {
		d.Tell(r)
		tellsTold(t, d, r)
		tellsTold(t, d, r)
		asked(d, api.Access{Kind: api.Add, A: 1})
		tellsTold(t, d, r)
	}
	for _, r := range []api.Result{result(7), {}} {
		d.Tell(result(6))
		d.Tell(r)
		tellsTold(t, d, r)
		d.Fresh()
		tellsNothing(t, d)
		d.Load(0)
		tellsNothing(t, d)
	}
}

// TestTellChangesNothing: P4.3, Tell changes nothing that is there, nor do the others that are no accesses.
func TestTellChangesNothing(t *testing.T) {
	m := filled(t, 4, 4)
	was := m.Copy()
	d := port.New(m, 1)
	for i := range 5 {
		d.Tell(result(i))
		d.Told()
		d.Self()
		d.Steps()
		if i%2 == 1 {
			d.Fresh()
		}
		if !mem.Same(m, was) {
			t.Fatalf("the memory is changed")
		}
	}
}

// TestTwoPorts: P4.3, two ports to one memory see the same, and what is done to it by others; each has its own thread, steps and what was told.
func TestTwoPorts(t *testing.T) {
	m := made(t, 3, 3)
	a, b := port.New(m, 1), port.New(m, 2)
	a.Store(0, 5)
	if b.Load(0) != 5 || !b.CAS(0, 5, 6) || a.CAS(0, 5, 7) || a.Add(0, 4) != 6 || b.Add(0, 1) != 10 || a.Load(0) != 11 {
		t.Errorf("the word is %d and %d", a.Load(0), b.Load(0))
	}
	b.Put(2, 9)
	if a.Get(2) != 9 {
		t.Errorf("the byte is %d and %d", a.Get(2), b.Get(2))
	}
	m.Do(api.Access{Kind: api.Store, At: 1, A: 77})
	if a.Load(1) != 77 || b.Load(1) != 77 || m.Word(0) != 11 || m.Byte(2) != 9 {
		t.Errorf("words %d and %d", a.Load(1), b.Load(1))
	}
	tellsSteps(t, a, 6)
	tellsSteps(t, b, 5)
	a.Tell(result(1))
	tellsTold(t, a, result(1))
	tellsNothing(t, b)
	b.Tell(result(2))
	b.Fresh()
	tellsTold(t, a, result(1))
	tellsSteps(t, a, 6)
	tellsSteps(t, b, 0)
	if a.Self() != 1 || b.Self() != 2 {
		t.Errorf("threads %d and %d", a.Self(), b.Self())
	}
}

// TestOwnMemory: P4.1, a port to a copy, and one to another memory, have to do with that one alone.
func TestOwnMemory(t *testing.T) {
	m := filled(t, 2, 2)
	c := m.Copy()
	was := m.Copy()
	d := port.New(c, 0)
	d.Store(0, 1)
	d.Put(1, 200)
	if !mem.Same(m, was) || c.Word(0) != 1 || c.Byte(1) != 200 {
		t.Errorf("word %d, byte %d", c.Word(0), c.Byte(1))
	}
}

// TestRow: P4.1, P4.2, a long row of accesses, good and wrong ones, held one by one to what the memory's own Do does.
func TestRow(t *testing.T) {
	const words, bytes = 5, 3
	m, want := made(t, words, bytes), made(t, words, bytes)
	d := port.New(m, 0)
	next := uint64(1)
	upTo := func(n uint64) uint64 { // a row of its own, the same each time
		next = next*6364136223846793005 + 1442695040888963407
		return (next >> 33) % n
	}
	for range 20000 {
		a := api.Access{Kind: uint8(upTo(6)) + api.Load, At: int(upTo(words+3)) - 1, A: upTo(3), B: upTo(3)}
		if upTo(4) == 0 {
			a.A = -a.A
		}
		answer, _ := want.Do(a)
		answers(t, d, a, answer, m, want)
	}
	tellsSteps(t, d, 20000)
}

// TestNil: P4.2, a nil port does nothing, and answers zeros.
func TestNil(t *testing.T) {
	var d *port.Direct
	for _, at := range []int{0, 1, -1, math.MaxInt, math.MinInt} {
		for kind := uint8(api.Load); kind <= api.Put; kind++ {
			if got := asked(d, api.Access{Kind: kind, At: at, A: 0, B: 1}); got != 0 {
				t.Errorf("kind %d at %d: %d", kind, at, got)
			}
		}
	}
	d.Tell(result(1))
	tellsNothing(t, d)
	d.Fresh()
	tellsSteps(t, d, 0)
	if d.Self() != 0 {
		t.Errorf("thread %d", d.Self())
	}
}

// TestZeroValue: R1, a port that was not made by New is one to no memory: it does not panic.
func TestZeroValue(t *testing.T) {
	d := &port.Direct{}
	for kind := uint8(api.Load); kind <= api.Put; kind++ {
		if got := asked(d, api.Access{Kind: kind, A: 0, B: 1}); got != 0 {
			t.Errorf("kind %d: %d", kind, got)
		}
	}
	tellsNothing(t, d)
	d.Tell(result(1))
	d.Fresh()
	tellsNothing(t, d)
	if d.Self() != 0 || d.Steps() != 0 {
		t.Errorf("thread %d, %d steps", d.Self(), d.Steps())
	}
}
