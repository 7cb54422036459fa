package thread_test

import (
	"errors"
	"math"
	"runtime"
	"slices"
	"testing"

	"quillet/api"
	"quillet/mem"
	"quillet/port"
	"quillet/thread"
)

// The tests name the promises of shared/doc/05-thread.md that they hold the package to.

// began is a thread of a number with a body under way, or ended; it is closed at the test's end.
func began(t *testing.T, self int, body func(p api.Port)) *thread.Thread {
	t.Helper()
	th := thread.New(self)
	t.Cleanup(th.Close)
	starts(t, th, body)
	return th
}

// starts begins a body that has to begin.
func starts(t *testing.T, th *thread.Thread, body func(p api.Port)) {
	t.Helper()
	if !th.Start(body) {
		t.Fatalf("Start: false")
	}
}

// waits holds a thread to the access that is pending.
func waits(t *testing.T, th *thread.Thread, want api.Access) {
	t.Helper()
	if got, ok := th.Pending(); !ok || got != want {
		t.Fatalf("pending: %+v, %v, want %+v", got, ok, want)
	}
	if !th.Busy() {
		t.Fatalf("not busy, with %+v pending", want)
	}
}

// idles holds a thread to have no body under way.
func idles(t *testing.T, th *thread.Thread) {
	t.Helper()
	if th.Busy() {
		t.Fatalf("busy")
	}
	if got, ok := th.Pending(); ok || got != (api.Access{}) {
		t.Fatalf("pending: %+v, %v, want none", got, ok)
	}
	if th.Grant(1) {
		t.Fatalf("granted, with none pending")
	}
}

// grants grants what has to be pending.
func grants(t *testing.T, th *thread.Thread, v uint64) {
	t.Helper()
	if !th.Grant(v) {
		t.Fatalf("Grant(%#x): false", v)
	}
}

// tellsSteps holds a thread to how many accesses of the last body were granted.
func tellsSteps(t *testing.T, th *thread.Thread, want int) {
	t.Helper()
	if got := th.Steps(); got != want {
		t.Fatalf("%d steps, want %d", got, want)
	}
}

// tellsTold holds a thread to what its last body told last; tellsNothing to that it told nothing.
func tellsTold(t *testing.T, th *thread.Thread, want api.Result) {
	t.Helper()
	if got, ok := th.Told(); !ok || got != want {
		t.Fatalf("told %+v, %v, want %+v", got, ok, want)
	}
}

func tellsNothing(t *testing.T, th *thread.Thread) {
	t.Helper()
	if got, ok := th.Told(); ok || got != (api.Result{}) {
		t.Fatalf("told %+v, %v, want nothing", got, ok)
	}
}

// panicked is what a call panics with, and whether it came back at all.
func panicked(call func()) (value any, back bool) {
	defer func() {
		value = recover()
	}()
	call()
	return nil, true
}

// load is a body that waits once.
func load(p api.Port) {
	p.Load(0)
}

// asked is what a port answers to an access, as a number: that of a CAS that was done is 1, and of what answers nothing 0.
func asked(p api.Port, a api.Access) uint64 {
	switch a.Kind {
	case api.Load:
		return p.Load(a.At)
	case api.Store:
		p.Store(a.At, a.A)
	case api.CAS:
		if p.CAS(a.At, a.A, a.B) {
			return 1
		}
	case api.Add:
		return p.Add(a.At, a.A)
	case api.Get:
		return uint64(p.Get(a.At))
	case api.Put:
		p.Put(a.At, byte(a.A))
	}
	return 0
}

// TestExamples: P5.1, P5.2, P5.4; those of the chapter.
func TestExamples(t *testing.T) {
	th := began(t, 0, func(p api.Port) {
		p.Store(1, 5)
		p.Load(2)
	})
	waits(t, th, api.Access{Kind: api.Store, At: 1, A: 5})
	grants(t, th, 0)
	waits(t, th, api.Access{Kind: api.Load, At: 2})
	grants(t, th, 9)
	idles(t, th)
	tellsSteps(t, th, 2)

	idles(t, began(t, 0, func(p api.Port) {}))

	th = began(t, 0, load)
	th.Close()
	idles(t, th)
	if th.Start(load) {
		t.Fatalf("Start, closed: true")
	}
}

// TestNew: P5.1, P5.2; a thread without a body.
func TestNew(t *testing.T) {
	for _, self := range []int{0, 1, 63, 64, -1, math.MaxInt, math.MinInt} {
		th := thread.New(self)
		if th == nil {
			t.Fatalf("New(%d): nil", self)
		}
		idles(t, th)
		tellsSteps(t, th, 0)
		tellsNothing(t, th)
		th.Close()
		idles(t, th)
	}
}

// TestSelf: P5.2; the thread's number, of each body, at its beginning, its end, and between.
func TestSelf(t *testing.T) {
	for _, self := range []int{0, 1, 63, 64, -1, math.MaxInt, math.MinInt} {
		var got []int
		body := func(p api.Port) {
			got = append(got, p.Self())
			p.Load(3)
			got = append(got, p.Self())
		}
		th := began(t, self, body)
		grants(t, th, 5)
		starts(t, th, body)
		grants(t, th, 6)
		if want := []int{self, self, self, self}; !slices.Equal(got, want) {
			t.Fatalf("Self %v, want %v", got, want)
		}
	}
}

// TestPending: P5.1; what is pending at each kind of access, and that it stays so till it is granted.
func TestPending(t *testing.T) {
	accesses := []api.Access{
		{Kind: api.Load, At: 7},
		{Kind: api.Store, At: 8, A: 0xf0e1d2c3b4a59687},
		{Kind: api.CAS, At: 9, A: 0x1122334455667788, B: math.MaxUint64},
		{Kind: api.Add, At: 10, A: math.MaxUint64 - 2},
		{Kind: api.Get, At: 11},
		{Kind: api.Put, At: 12, A: 0xfe},
	}
	for _, a := range accesses {
		for _, at := range []int{a.At, 0, 1, -1, math.MaxInt, math.MinInt} {
			a.At = at
			th := began(t, 1, func(p api.Port) { asked(p, a) })
			waits(t, th, a)
			waits(t, th, a)
			grants(t, th, 3)
			idles(t, th)
		}
	}
}

// TestPendingNothing: P5.1; accesses of nothing but zeros still are pending, one after the other.
func TestPendingNothing(t *testing.T) {
	kinds := []uint8{api.Load, api.Store, api.CAS, api.Add, api.Get, api.Put}
	th := began(t, 1, func(p api.Port) {
		for _, kind := range kinds {
			asked(p, api.Access{Kind: kind})
		}
	})
	for _, kind := range kinds {
		waits(t, th, api.Access{Kind: kind})
		grants(t, th, 0)
	}
	idles(t, th)
	tellsSteps(t, th, 6)
}

// TestGrant: P5.1; what each kind of access answers of any number that is granted.
func TestGrant(t *testing.T) {
	numbers := []uint64{0, 1, 2, 3, 127, 128, 255, 256, 257, 0x1ff, 0xab00, 1 << 32, 1 << 63, math.MaxUint64, 0xf0e1d2c3b4a59687}
	for _, v := range numbers {
		done := uint64(0)
		if v != 0 {
			done = 1
		}
		want := map[uint8]uint64{api.Load: v, api.Store: 0, api.CAS: done, api.Add: v, api.Get: v & 0xff, api.Put: 0}
		for kind, answer := range want {
			got := uint64(77)
			th := began(t, 0, func(p api.Port) {
				got = asked(p, api.Access{Kind: kind, At: 2, A: 4, B: 6})
			})
			if got != 77 {
				t.Fatalf("kind %d answers %#x ahead of Grant", kind, got)
			}
			grants(t, th, v)
			if got != answer {
				t.Fatalf("kind %d, granted %#x: %#x, want %#x", kind, v, got, answer)
			}
		}
	}
}

// TestRow: P5.1; a body goes on up to its next access, or its end, and no further.
func TestRow(t *testing.T) {
	var done []string
	th := thread.New(0)
	t.Cleanup(th.Close)
	does := func(want ...string) {
		t.Helper()
		if !slices.Equal(done, want) {
			t.Fatalf("the body has done %v, want %v", done, want)
		}
	}
	does()
	starts(t, th, func(p api.Port) {
		done = append(done, "begun")
		p.Load(1)
		done = append(done, "loaded")
		p.Put(1, 2)
		done = append(done, "put")
	})
	does("begun")
	th.Pending()
	th.Busy()
	does("begun")
	grants(t, th, 0)
	does("begun", "loaded")
	grants(t, th, 0)
	does("begun", "loaded", "put")
	idles(t, th)
	does("begun", "loaded", "put")
}

// TestStartFalse: P5.1; a body under way goes on as if the other one had not been there.
func TestStartFalse(t *testing.T) {
	begun := 0
	other := func(p api.Port) {
		begun++
		p.Tell(api.Result{At: 9})
		p.Store(8, 8)
	}
	th := began(t, 0, func(p api.Port) {
		p.Tell(api.Result{At: 1})
		p.Load(5)
		p.Load(6)
	})
	grants(t, th, 0)
	for range 3 {
		if th.Start(other) || th.Start(nil) {
			t.Fatalf("Start, with a body under way: true")
		}
		waits(t, th, api.Access{Kind: api.Load, At: 6})
		tellsSteps(t, th, 1)
		tellsTold(t, th, api.Result{At: 1})
	}
	grants(t, th, 0)
	if th.Start(nil) {
		t.Fatalf("Start(nil): true")
	}
	idles(t, th)
	tellsSteps(t, th, 2)
	tellsTold(t, th, api.Result{At: 1})
	th.Close()
	if th.Start(other) || th.Start(nil) {
		t.Fatalf("Start, closed: true")
	}
	if begun != 0 {
		t.Fatalf("a body that was not to begin did, %d times", begun)
	}
	tellsSteps(t, th, 2)
	tellsTold(t, th, api.Result{At: 1})
}

// TestStartNil: P5.1; a thread that was handed no body is still without one.
func TestStartNil(t *testing.T) {
	th := thread.New(4)
	t.Cleanup(th.Close)
	if th.Start(nil) {
		t.Fatalf("Start(nil): true")
	}
	idles(t, th)
	tellsSteps(t, th, 0)
	tellsNothing(t, th)
	starts(t, th, load)
	waits(t, th, api.Access{Kind: api.Load})
}

// TestWithin: P5.1; a body that runs is under way, but has nothing pending: what it asks of its own thread is told so.
func TestWithin(t *testing.T) {
	th := thread.New(0)
	t.Cleanup(th.Close)
	looks := 0
	look := func() {
		looks++
		if a, ok := th.Pending(); ok || a != (api.Access{}) {
			t.Errorf("pending, while it runs: %+v, %v", a, ok)
		}
		if !th.Busy() || th.Grant(1) || th.Start(load) {
			t.Errorf("not under way, while it runs")
		}
	}
	starts(t, th, func(p api.Port) {
		look()
		p.Load(1)
		look()
	})
	grants(t, th, 0)
	idles(t, th)
	if looks != 2 {
		t.Fatalf("looked %d times, want 2", looks)
	}
}

// TestSteps: P5.2; how many accesses were granted, told by the thread and by the port, of the last body.
func TestSteps(t *testing.T) {
	for _, n := range []int{0, 1, 2, 3, 100} {
		th := thread.New(0)
		t.Cleanup(th.Close)
		for range 2 {
			var told []int
			starts(t, th, func(p api.Port) {
				told = append(told, p.Steps())
				for i := range n {
					asked(p, api.Access{Kind: uint8(i%6) + 1, At: -i})
					told = append(told, p.Steps())
				}
			})
			for i := range n {
				tellsSteps(t, th, i)
				grants(t, th, uint64(i))
			}
			tellsSteps(t, th, n)
			for i, got := range told {
				if got != i {
					t.Fatalf("the port tells %d steps, want %d", got, i)
				}
			}
			if len(told) != n+1 {
				t.Fatalf("the body told its steps %d times, want %d", len(told), n+1)
			}
		}
		th.Close()
		tellsSteps(t, th, n)
	}
}

// TestTold: P5.2; what the port of the last body was told last, as soon as the body waits, or has ended.
func TestTold(t *testing.T) {
	one := api.Result{At: 1, N: 2, Byte: 3, C: api.Counts{Allocs: 4, Frees: 5, Failures: 6, Live: 7, Bytes: 8}, E: api.ErrNoMem, Lin: 9, Touch: 10}
	two := api.Result{At: 11, N: 12, E: api.ErrArg, Lin: 13}
	th := began(t, 0, func(p api.Port) {
		p.Load(1)
		p.Tell(two)
		p.Tell(one)
		p.Load(2)
		p.Tell(two)
	})
	tellsNothing(t, th)
	grants(t, th, 0)
	tellsTold(t, th, one)
	tellsSteps(t, th, 1)
	waits(t, th, api.Access{Kind: api.Load, At: 2})
	grants(t, th, 0)
	tellsTold(t, th, two)
	idles(t, th)

	starts(t, th, load)
	tellsNothing(t, th)
	tellsSteps(t, th, 0)
	grants(t, th, 0)
	tellsNothing(t, th)

	starts(t, th, func(p api.Port) { p.Tell(one) })
	tellsTold(t, th, one)
	tellsSteps(t, th, 0)
	starts(t, th, func(p api.Port) { p.Tell(api.Result{}) })
	tellsTold(t, th, api.Result{})
	starts(t, th, func(p api.Port) {})
	tellsNothing(t, th)
}

// TestMany: P5.1, P5.2; one body behind the other on one thread, each of them with a port of its own.
func TestMany(t *testing.T) {
	th := thread.New(3)
	t.Cleanup(th.Close)
	for i := range 50 {
		got := uint64(0)
		starts(t, th, func(p api.Port) {
			for range i % 4 {
				got += p.Add(i, uint64(i))
			}
			p.Tell(api.Result{N: i})
		})
		for range i % 4 {
			waits(t, th, api.Access{Kind: api.Add, At: i, A: uint64(i)})
			grants(t, th, uint64(i+1))
		}
		idles(t, th)
		tellsSteps(t, th, i%4)
		tellsTold(t, th, api.Result{N: i})
		if want := uint64(i%4) * uint64(i+1); got != want {
			t.Fatalf("body %d was granted %d, want %d", i, got, want)
		}
	}
}

// TestThreads: P5.1, P5.2; threads know nothing of each other.
func TestThreads(t *testing.T) {
	var threads []*thread.Thread
	got := make([]uint64, 64)
	for i := range got {
		threads = append(threads, began(t, i, func(p api.Port) {
			for range i % 5 {
				got[i] = p.Load(p.Self())
			}
			p.Tell(api.Result{N: p.Self()})
		}))
	}
	for round := 1; round < 5; round++ {
		for i, th := range threads {
			if th.Grant(uint64(100*round+i)) != (round <= i%5) {
				t.Fatalf("thread %d, round %d: granted, or not", i, round)
			}
		}
	}
	for i, th := range threads {
		idles(t, th)
		tellsSteps(t, th, i%5)
		tellsTold(t, th, api.Result{N: i})
		if i%5 > 0 && got[i] != uint64(100*(i%5)+i) {
			t.Fatalf("thread %d was granted %d", i, got[i])
		}
	}
}

// values are some that a body may panic with.
func values() []any {
	n := 5
	return []any{"ended", 0, false, errors.New("ended"), &n, struct{ n int }{7}, struct{}{}, uint64(9), api.ErrNoMem, [2]string{"a", "b"}}
}

// TestOwnPanic: P5.3; in Start, and in Grant, with the body's value, when the body has ended.
func TestOwnPanic(t *testing.T) {
	for _, value := range values() {
		th := thread.New(0)
		t.Cleanup(th.Close)
		ended := 0
		got, back := panicked(func() {
			th.Start(func(p api.Port) {
				defer func() { ended++ }()
				p.Tell(api.Result{N: 3})
				panic(value)
			})
		})
		if back || got != value || ended != 1 {
			t.Fatalf("Start panics with %v, want %v; ended %d times", got, value, ended)
		}
		idles(t, th)
		tellsSteps(t, th, 0)
		tellsTold(t, th, api.Result{N: 3})

		starts(t, th, func(p api.Port) {
			defer func() { ended++ }()
			p.Load(1)
			p.Load(2)
			p.Tell(api.Result{N: 4})
			panic(value)
		})
		grants(t, th, 0)
		got, back = panicked(func() { th.Grant(0) })
		if back || got != value || ended != 2 {
			t.Fatalf("Grant panics with %v, want %v; ended %d times", got, value, ended)
		}
		idles(t, th)
		tellsSteps(t, th, 2)
		tellsTold(t, th, api.Result{N: 4})

		starts(t, th, load)
		waits(t, th, api.Access{Kind: api.Load})
		tellsNothing(t, th)
		grants(t, th, 0)
	}
}

// TestOwnPanicUncomparable: P5.3; values that can't be held against another one, and those that the language itself panics with.
func TestOwnPanicUncomparable(t *testing.T) {
	th := thread.New(0)
	t.Cleanup(th.Close)
	got, _ := panicked(func() { th.Start(func(p api.Port) { panic([]int{1, 2}) }) })
	if list, ok := got.([]int); !ok || !slices.Equal(list, []int{1, 2}) {
		t.Fatalf("Start panics with %v", got)
	}
	got, _ = panicked(func() { th.Start(func(p api.Port) { panic(func() int { return 8 }) }) })
	if call, ok := got.(func() int); !ok || call() != 8 {
		t.Fatalf("Start panics with %v", got)
	}
	var list []int
	starts(t, th, func(p api.Port) { list[p.Load(0)]++ })
	got, _ = panicked(func() { th.Grant(5) })
	if e, ok := got.(runtime.Error); !ok || e.Error() != "runtime error: index out of range [5] with length 0" {
		t.Fatalf("Grant panics with %v", got)
	}
	got, back := panicked(func() { th.Start(func(p api.Port) { panic(nil) }) })
	if _, ok := got.(*runtime.PanicNilError); !ok || back {
		t.Fatalf("Start panics with %v", got)
	}
	idles(t, th)
}

// TestOwnPanicOnItsWay: P5.3, P5.1; a deferred call waits at its accesses while the body ends by a panic, and that goes on behind them.
func TestOwnPanicOnItsWay(t *testing.T) {
	th := began(t, 0, func(p api.Port) {
		defer p.Store(4, 5)
		defer p.Load(3)
		panic("own")
	})
	waits(t, th, api.Access{Kind: api.Load, At: 3})
	grants(t, th, 0)
	waits(t, th, api.Access{Kind: api.Store, At: 4, A: 5})
	if got, back := panicked(func() { th.Grant(0) }); back || got != "own" {
		t.Fatalf("Grant panics with %v", got)
	}
	idles(t, th)
	tellsSteps(t, th, 2)
}

// TestOwnPanicRecovered: P5.3; a body that recovers from its own panic does not end by it.
func TestOwnPanicRecovered(t *testing.T) {
	th := began(t, 0, func(p api.Port) {
		func() {
			defer func() {
				if got := recover(); got != "own" {
					t.Errorf("recovered from %v", got)
				}
			}()
			p.Load(1)
			panic("own")
		}()
		p.Load(2)
	})
	grants(t, th, 0)
	waits(t, th, api.Access{Kind: api.Load, At: 2})
	grants(t, th, 0)
	idles(t, th)
	tellsSteps(t, th, 2)
}

// TestGoexit: P5.1; a body that ends its goroutine has ended, by no panic.
func TestGoexit(t *testing.T) {
	th := began(t, 0, func(p api.Port) {
		p.Load(1)
		runtime.Goexit()
	})
	if got, back := panicked(func() { grants(t, th, 0) }); !back {
		t.Fatalf("Grant panics with %v", got)
	}
	idles(t, th)
	starts(t, th, load)
	waits(t, th, api.Access{Kind: api.Load})
}

// TestCloseAhead: P5.4, P5.1; closed ahead of any body, once and twice.
func TestCloseAhead(t *testing.T) {
	th := thread.New(2)
	for range 2 {
		th.Close()
		idles(t, th)
		if th.Start(func(p api.Port) { t.Errorf("begun") }) {
			t.Fatalf("Start, closed: true")
		}
		tellsSteps(t, th, 0)
		tellsNothing(t, th)
	}
}

// TestCloseEnded: P5.4; behind a body that has ended, what it told is still told.
func TestCloseEnded(t *testing.T) {
	th := began(t, 2, func(p api.Port) {
		p.Load(0)
		p.Tell(api.Result{At: 5})
	})
	grants(t, th, 0)
	for range 2 {
		th.Close()
		idles(t, th)
		if th.Start(load) {
			t.Fatalf("Start, closed: true")
		}
		tellsSteps(t, th, 1)
		tellsTold(t, th, api.Result{At: 5})
	}
}

// TestCloseWaiting: P5.4, P5.2; a body that waits is ended there, and its deferred calls are done, each of them once.
func TestCloseWaiting(t *testing.T) {
	for kind := uint8(api.Load); kind <= api.Put; kind++ {
		var done []string
		th := began(t, 2, func(p api.Port) {
			defer func() { done = append(done, "first") }()
			defer func() {
				done = append(done, "last")
				if p.Steps() != 1 || p.Self() != 2 {
					t.Errorf("Steps %d, Self %d, at the end", p.Steps(), p.Self())
				}
				p.Tell(api.Result{N: 8})
			}()
			p.Tell(api.Result{N: 7})
			p.Load(1)
			asked(p, api.Access{Kind: kind, At: 2})
			done = append(done, "gone on")
		})
		grants(t, th, 0)
		for range 2 {
			th.Close()
			if want := []string{"last", "first"}; !slices.Equal(done, want) {
				t.Fatalf("kind %d: the body has done %v, want %v", kind, done, want)
			}
			idles(t, th)
			if th.Start(load) {
				t.Fatalf("Start, closed: true")
			}
			tellsSteps(t, th, 1)
			tellsTold(t, th, api.Result{N: 8})
		}
	}
}

// TestCloseAsks: P5.4; deferred calls that ask for accesses while a body is ended are ended there, and those behind them are still done.
func TestCloseAsks(t *testing.T) {
	for kind := uint8(api.Load); kind <= api.Put; kind++ {
		var done []string
		th := began(t, 2, func(p api.Port) {
			defer func() { done = append(done, "first") }()
			for range 3 {
				defer func() {
					done = append(done, "asks")
					asked(p, api.Access{Kind: kind, At: 2})
					done = append(done, "gone on")
				}()
			}
			p.Load(1)
		})
		th.Close()
		if want := []string{"asks", "asks", "asks", "first"}; !slices.Equal(done, want) {
			t.Fatalf("kind %d: the body has done %v, want %v", kind, done, want)
		}
		idles(t, th)
		tellsSteps(t, th, 0)
	}
}

// TestCloseWithinDeferred: P5.4; a body that waits in a deferred call, as it ends, or panics, is ended there.
func TestCloseWithinDeferred(t *testing.T) {
	for _, value := range []any{nil, "own"} {
		done := 0
		th := began(t, 0, func(p api.Port) {
			defer func() { done++ }()
			defer p.Load(4)
			if value != nil {
				panic(value)
			}
		})
		waits(t, th, api.Access{Kind: api.Load, At: 4})
		if got, back := panicked(th.Close); !back {
			t.Fatalf("Close panics with %v", got)
		}
		idles(t, th)
		if done != 1 {
			t.Fatalf("a deferred call was done %d times", done)
		}
	}
}

// TestCloseRecovered: P5.4; a body that recovers from being ended goes on, and is ended at its next access.
func TestCloseRecovered(t *testing.T) {
	var done []string
	met := 0
	tries := func(p api.Port) {
		defer func() {
			if recover() != nil {
				met++
			}
		}()
		p.Load(1)
		done = append(done, "loaded")
	}
	th := began(t, 0, func(p api.Port) {
		defer func() { done = append(done, "deferred") }()
		tries(p)
		done = append(done, "recovered")
		tries(p)
		done = append(done, "recovered")
		p.Tell(api.Result{N: 6})
		p.Store(1, 1)
		done = append(done, "stored")
	})
	grants(t, th, 0)
	waits(t, th, api.Access{Kind: api.Load, At: 1})
	th.Close()
	if want := []string{"loaded", "recovered", "recovered", "deferred"}; !slices.Equal(done, want) || met != 1 {
		t.Fatalf("the body has done %v, and recovered %d times", done, met)
	}
	idles(t, th)
	tellsSteps(t, th, 1)
	tellsTold(t, th, api.Result{N: 6})

	met = 0
	th = began(t, 0, func(p api.Port) {
		for range 4 {
			tries(p)
		}
	})
	th.Close()
	idles(t, th)
	if met != 4 {
		t.Fatalf("the body met its end %d times, want 4", met)
	}
}

// TestCloseOwnPanic: P5.4, R1; Close does not panic, whatever the body that is ended does.
func TestCloseOwnPanic(t *testing.T) {
	bodies := []func(p api.Port){
		func(p api.Port) {
			defer func() { panic("own") }()
			p.Load(1)
		},
		func(p api.Port) {
			defer func() { panic(recover()) }()
			p.Load(1)
		},
		func(p api.Port) {
			defer runtime.Goexit()
			p.Load(1)
		},
	}
	for i, body := range bodies {
		th := began(t, 0, body)
		if got, back := panicked(th.Close); !back {
			t.Fatalf("body %d: Close panics with %v", i, got)
		}
		idles(t, th)
	}
}

// TestCloseItself: P5.4; a body that closes its own thread is ended at its next access, which is never pending.
func TestCloseItself(t *testing.T) {
	for range 200 {
		var done []string
		th := thread.New(0)
		body := func(p api.Port) {
			defer func() { done = append(done, "deferred") }()
			p.Load(1)
			th.Close()
			th.Close()
			done = append(done, "closed")
			p.Load(2)
			done = append(done, "loaded")
		}
		starts(t, th, body)
		waits(t, th, api.Access{Kind: api.Load, At: 1})
		grants(t, th, 0)
		idles(t, th)
		if want := []string{"closed", "deferred"}; !slices.Equal(done, want) {
			t.Fatalf("the body has done %v, want %v", done, want)
		}
		tellsSteps(t, th, 1)
		if th.Start(body) {
			t.Fatalf("Start, closed: true")
		}
	}
}

// TestCloseItselfAndPanic: P5.3, P5.4; a body that closes its thread, and ends by a panic of its own.
func TestCloseItselfAndPanic(t *testing.T) {
	th := thread.New(0)
	got, back := panicked(func() {
		th.Start(func(p api.Port) {
			th.Close()
			panic("own")
		})
	})
	if back || got != "own" {
		t.Fatalf("Start panics with %v", got)
	}
	idles(t, th)
}

// TestCloseInDeferred: P5.4; deferred calls that ask their closed thread are told that it does nothing more.
func TestCloseInDeferred(t *testing.T) {
	th := thread.New(0)
	looked := false
	starts(t, th, func(p api.Port) {
		defer func() {
			looked = true
			th.Close()
			if a, ok := th.Pending(); ok || a != (api.Access{}) {
				t.Errorf("pending, while it is ended: %+v", a)
			}
			if th.Grant(1) || th.Start(load) {
				t.Errorf("granted, or started, while it is ended")
			}
		}()
		p.Load(1)
	})
	th.Close()
	idles(t, th)
	if !looked {
		t.Fatalf("the deferred call was not done")
	}
}

// TestBodyOfBody: P5.1, P5.4; a body may run another thread, and what ends the one is not taken for what ends the other.
func TestBodyOfBody(t *testing.T) {
	inner := thread.New(1)
	t.Cleanup(inner.Close)
	var done []string
	outer := began(t, 0, func(p api.Port) {
		defer func() { done = append(done, "outer") }()
		inner.Start(func(q api.Port) {
			defer func() { done = append(done, "inner") }()
			p.Store(1, uint64(q.Load(2)))
			p.Load(3)
		})
		p.Load(4)
		inner.Grant(7)
		done = append(done, "gone on")
	})
	waits(t, outer, api.Access{Kind: api.Load, At: 4})
	waits(t, inner, api.Access{Kind: api.Load, At: 2})
	grants(t, outer, 0)
	waits(t, outer, api.Access{Kind: api.Store, At: 1, A: 7})
	grants(t, outer, 0)
	waits(t, outer, api.Access{Kind: api.Load, At: 3})
	tellsSteps(t, outer, 2)
	tellsSteps(t, inner, 1)
	outer.Close()
	if want := []string{"inner", "outer"}; !slices.Equal(done, want) {
		t.Fatalf("the bodies have done %v, want %v", done, want)
	}
	idles(t, outer)
	idles(t, inner)
}

// TestStrayPort: R1; a port that is asked by another than its body, or when that has ended, answers zeros, and has no one wait.
func TestStrayPort(t *testing.T) {
	var stray api.Port
	keeps := func(p api.Port) {
		stray = p
		p.Load(1)
	}
	th := began(t, 5, keeps)
	silent := func(steps int) {
		t.Helper()
		for kind := uint8(api.Load); kind <= api.Put; kind++ {
			if got := asked(stray, api.Access{Kind: kind, At: 1, A: 2, B: 3}); got != 0 {
				t.Fatalf("kind %d answers %d", kind, got)
			}
		}
		if stray.Steps() != steps || stray.Self() != 5 {
			t.Fatalf("Steps %d, Self %d", stray.Steps(), stray.Self())
		}
	}
	silent(0)
	waits(t, th, api.Access{Kind: api.Load, At: 1})
	grants(t, th, 4)
	silent(1)
	idles(t, th)
	starts(t, th, func(p api.Port) {
		silent(1)
		p.Load(2)
	})
	waits(t, th, api.Access{Kind: api.Load, At: 2})
	silent(1)
	grants(t, th, 0)
	starts(t, th, keeps)
	th.Close()
	silent(0)
}

// TestNil: P5.1, P5.2, P5.4, R1; a nil thread, and one that New has not made.
func TestNil(t *testing.T) {
	var none *thread.Thread
	for range 2 {
		if none.Start(func(p api.Port) { t.Errorf("begun") }) || none.Start(nil) {
			t.Fatalf("Start: true")
		}
		idles(t, none)
		tellsSteps(t, none, 0)
		tellsNothing(t, none)
		none.Close()
	}

	var zero thread.Thread
	idles(t, &zero)
	tellsSteps(t, &zero, 0)
	tellsNothing(t, &zero)
	starts(t, &zero, func(p api.Port) {
		if p.Self() != 0 {
			t.Errorf("Self %d", p.Self())
		}
		p.Load(1)
		p.Load(2)
	})
	grants(t, &zero, 0)
	waits(t, &zero, api.Access{Kind: api.Load, At: 2})
	zero.Close()
	idles(t, &zero)
	tellsSteps(t, &zero, 1)
}

// filled is a memory in which no two words, and no two bytes, are the same.
func filled(t *testing.T, words, bytes int) *mem.Memory {
	t.Helper()
	m, e := mem.New(words, bytes)
	if e != api.OK {
		t.Fatalf("New(%d, %d): error %d", words, bytes, e)
	}
	for i := range words {
		m.Do(api.Access{Kind: api.Store, At: i, A: uint64(3*i + 1)})
	}
	for i := range bytes {
		m.Do(api.Access{Kind: api.Put, At: i, A: uint64(5*i + 2)})
	}
	return m
}

// seen is what a body has done, and been answered, by a port.
type seen struct {
	answers []uint64
	steps   []int
	self    int
}

// wander is a body that hangs on all that it is answered: where it goes next, what it does there, and when it ends. (Words and bytes out of bounds are among them.)
func wander(s *seen, seed uint64) func(p api.Port) {
	return func(p api.Port) {
		x := seed
		s.self = p.Self()
		for range 40 + seed%7 {
			x = x*6364136223846793005 + 1442695040888963407
			a := api.Access{Kind: uint8(x>>33%6) + 1, At: int(x>>40%10) - 1, A: x >> 50 % 30, B: x >> 55}
			v := asked(p, a)
			s.answers = append(s.answers, v)
			s.steps = append(s.steps, p.Steps())
			x += v
			if x%16 == 0 {
				p.Tell(api.Result{At: int(x >> 20), Lin: p.Steps()})
			}
		}
	}
}

// TestSameAsDirect: P5.5; granted what a memory answers, a body does what it does with a direct port.
func TestSameAsDirect(t *testing.T) {
	differ := map[uint64]int{}
	for seed := range uint64(200) {
		var direct, granted seen
		m, n := filled(t, 8, 8), filled(t, 8, 8)
		d := port.New(m, int(seed))
		wander(&direct, seed)(d)
		th := began(t, int(seed), wander(&granted, seed))
		for th.Busy() {
			a, ok := th.Pending()
			if !ok {
				t.Fatalf("seed %d: under way, and none pending", seed)
			}
			v, _ := n.Do(a)
			grants(t, th, v)
		}
		if !slices.Equal(direct.answers, granted.answers) || !slices.Equal(direct.steps, granted.steps) || direct.self != granted.self {
			t.Fatalf("seed %d: %+v with a direct port, %+v granted", seed, direct, granted)
		}
		if !mem.Same(m, n) {
			t.Fatalf("seed %d: the memories differ", seed)
		}
		tellsSteps(t, th, d.Steps())
		told, ok := d.Told()
		if got, has := th.Told(); got != told || has != ok {
			t.Fatalf("seed %d: told %+v, %v with a direct port, %+v, %v granted", seed, told, ok, got, has)
		}
		differ[m.Word(3)]++
	}
	if len(differ) < 20 {
		t.Fatalf("the bodies hardly differ: %v", differ)
	}
}

// TestGrantedAlone: P5.5; a body that is granted the same does the same, whatever a memory would have answered, and whatever other threads do between.
func TestGrantedAlone(t *testing.T) {
	run := func(other *thread.Thread) (seen, []api.Access) {
		var s seen
		var row []api.Access
		th := began(t, 6, wander(&s, 11))
		for i := uint64(1); th.Busy(); i++ {
			a, _ := th.Pending()
			row = append(row, a)
			other.Grant(i)
			grants(t, th, i*i*977)
		}
		return s, row
	}
	var o seen
	a, rowA := run(nil)
	b, rowB := run(began(t, 1, wander(&o, 5)))
	if !slices.Equal(a.answers, b.answers) || !slices.Equal(rowA, rowB) || len(o.answers) == 0 {
		t.Fatalf("granted the same: %+v, %+v, and %+v, %+v", a, rowA, b, rowB)
	}
}
