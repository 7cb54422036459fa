package state_test

import (
	"math"
	"testing"

	"quillet/api"
	"quillet/geom"
	"quillet/mem"
	"quillet/port"
	"quillet/state"
	"quillet/word"
)

// TestBirth: P14.2, a new Ver by an Add of 1, and one store of Live, whatever the state was.
func TestBirth(t *testing.T) {
	for _, threads := range []int{1, 2, 64} {
		x := in(t, 2, threads)
		for self := range threads {
			x.by(self)
			for _, grain := range some(x.g) {
				for _, size := range sizes() {
					ver := x.ver()
					state.Birth(x.p, x.g, grain, size)
					x.did("Birth", x.add(), x.put(grain, liveWord(size, ver)))
					x.saw(state.Look(x.p, x.g, grain), liveState(size, ver), 1)
					x.did("Look", x.load(grain))
				}
			}
		}
	}
}

// TestVer: P14.2, P14.3, a Ver is what Serial is by an Add of 1, times 64, and the thread's number, in 32 bits; and each birth, promise and resize has another one, whoever does it.
func TestVer(t *testing.T) {
	x := in(t, 1, 64)
	for _, self := range []int{0, 1, 5, 63} {
		x.by(self)
		for _, serial := range []uint64{0, 1, 2, 63, 64, 1<<26 - 1, 1 << 26, 1<<26 + 1, 1<<32 - 1, 1 << 32, math.MaxUint64} {
			x.serials[self] = serial
			x.lay(x.g.Serial(self), serial)
			want := uint32((serial+1)*64) + uint32(self)
			state.Birth(x.p, x.g, 3, 20)
			x.did("Birth", x.add(), x.put(3, liveWord(20, want)))
		}
	}
	g := arena(t, 1, 64)
	m := zeros(t, g)
	for _, y := range []struct {
		self int
		ver  uint32
	}{{0, 64}, {0, 128}, {1, 65}, {63, 127}, {1, 129}, {0, 192}} {
		if ver := state.Promise(port.New(m, y.self), g, 5, 3, 40); ver != y.ver {
			t.Errorf("the Ver of thread %d is %d, want %d", y.self, ver, y.ver)
		}
	}
	m = zeros(t, g)
	met := map[uint32]bool{}
	meet := func(ver uint32) {
		t.Helper()
		if met[ver] {
			t.Fatalf("the Ver %d is had twice", ver)
		}
		met[ver] = true
	}
	for round := range 20 {
		for self := range 64 {
			p := port.New(m, self)
			state.Birth(p, g, 3, 20)
			s := state.Look(p, g, 3).S
			meet(s.Ver)
			if !state.Resize(p, g, 3, s, 21+round) {
				t.Fatal("Resize: false")
			}
			meet(state.Look(p, g, 3).S.Ver)
			meet(state.Promise(p, g, 5, 3, 40))
			state.Resize(p, g, 3, s, 22) // not done: it is a Ver of nobody's then
			if n := m.Word(g.Serial(self)); n != uint64(round+1)*4 {
				t.Fatalf("Serial is %d", n)
			}
		}
	}
}

// TestDeath: P14.2, of a live block: a Look, and a CAS of what it saw to 0, which is Lin; of one that is not live what Look saw.
func TestDeath(t *testing.T) {
	for _, pages := range []int{1, 256} {
		x := in(t, pages, 3)
		grains := some(x.g)
		for i, grain := range grains {
			x.by(i % 3)
			from := grains[(i+1)%len(grains)]
			for _, ver := range vers() {
				for _, size := range sizes() {
					x.is(grain, liveWord(size, ver))
					x.saw(state.Death(x.p, x.g, grain), liveState(size, ver), 2)
					x.did("Death", x.load(grain), x.cas(grain, liveWord(size, ver), 0))
					x.sawNone(state.Death(x.p, x.g, grain), 1)
					x.did("Death of none", x.load(grain))

					w := pendWord(size, from, ver)
					x.is(grain, w)
					x.is(from, movedWord(grain, ver))
					x.saw(state.Death(x.p, x.g, grain), liveState(size, ver), 5)
					x.did("Death of a moved block", x.load(grain), x.load(from), x.cas(grain, w, liveWord(size, ver)), x.load(grain), x.cas(grain, liveWord(size, ver), 0))
					x.sawNone(state.Death(x.p, x.g, from), 1)
					x.did("Death of where it was", x.load(from))
				}
				x.is(grain, pendWord(40, from, ver))
				x.is(from, liveWord(20, ver-1))
				x.sawNone(state.Death(x.p, x.g, grain), 2)
				x.did("Death of a promised block", x.load(grain), x.load(from), x.load(grain))
			}
		}
	}
}

// TestDeathMeanwhile: P14.2, a CAS that is not done has all begun again.
func TestDeathMeanwhile(t *testing.T) {
	begin := func() (*lab, api.Access, api.Access) {
		x := in(t, 1, 2)
		x.is(3, liveWord(20, 7))
		return x, x.load(3), x.cas(3, liveWord(20, 7), 0)
	}
	x, load, cas := begin()
	x.ahead(1, 3, 0)
	x.sawNone(state.Death(x.p, x.g, 3), 3)
	x.did("another one is ahead", load, cas, load)

	x, load, cas = begin()
	x.ahead(1, 3, movedWord(5, 9))
	x.sawNone(state.Death(x.p, x.g, 3), 3)
	x.did("it moves", load, cas, load)

	for _, w := range []uint64{liveWord(21, 9), liveWord(20, 8), liveWord(20, 7|1<<31), stateWord(live, 20, 1, 7)} {
		x, load, cas = begin()
		x.ahead(1, 3, w)
		x.saw(state.Death(x.p, x.g, 3), word.StateOf(w), 4)
		x.did("it is another one now", load, cas, load, x.cas(3, w, 0))
	}

	x, load, cas = begin()
	x.ahead(1, 3, pendWord(40, 5, 9))
	x.is(5, movedWord(3, 9))
	x.saw(state.Death(x.p, x.g, 3), liveState(40, 9), 7)
	x.did("another one has moved there", load, cas, load, x.load(5), x.cas(3, pendWord(40, 5, 9), liveWord(40, 9)), load, x.cas(3, liveWord(40, 9), 0))

	x, load, _ = begin()
	var all []api.Access
	for n := range 50 { // another size in each round
		x.ahead(2*n+1, 3, liveWord(20, uint32(n+8)))
		all = append(all, load, x.cas(3, liveWord(20, uint32(n+7)), 0))
	}
	x.saw(state.Death(x.p, x.g, 3), liveState(20, 57), 102)
	x.did("another size in each round", append(all, load, x.cas(3, liveWord(20, 57), 0))...)
}

// TestDeathOfAnyWord: P14.2, R1, bits of no field: the block is ended all the same.
func TestDeathOfAnyWord(t *testing.T) {
	x := in(t, 1, 2)
	for _, odd := range []uint64{1 << 30, 1 << 31, 3 << 30} {
		w := liveWord(20, 7) | odd
		x.is(3, w)
		x.saw(state.Death(x.p, x.g, 3), liveState(20, 7), 2)
		x.did("Death", x.load(3), x.cas(3, w, 0))
		w = pendWord(20, 5, 7) | odd
		x.is(3, w)
		x.is(5, movedWord(3, 7)|odd)
		x.saw(state.Death(x.p, x.g, 3), liveState(20, 7), 5)
		x.did("Death of a moved block", x.load(3), x.load(5), x.cas(3, w, liveWord(20, 7)), x.load(3), x.cas(3, liveWord(20, 7), 0))
	}
}

// TestResize: P14.2, a new Ver, and a CAS from what was seen to Live of the size: whether that was done.
func TestResize(t *testing.T) {
	x := in(t, 2, 3)
	for i, grain := range some(x.g) {
		x.by(i % 3)
		for _, size := range sizes() {
			for _, ver := range vers() {
				w := liveWord(20, ver)
				x.is(grain, w)
				now := x.ver()
				if !state.Resize(x.p, x.g, grain, liveState(20, ver), size) {
					t.Fatal("Resize: false")
				}
				x.did("Resize", x.add(), x.cas(grain, w, liveWord(size, now)))
				x.saw(state.Look(x.p, x.g, grain), liveState(size, now), 1)
				x.did("Look", x.load(grain))
			}
		}
		for _, w := range []uint64{0, liveWord(21, 7), liveWord(20, 6), liveWord(20, 8), stateWord(live, 20, 1, 7), pendWord(20, 0, 7), pendWord(20, 5, 7), movedWord(5, 7)} {
			x.is(grain, w)
			now := x.ver()
			if state.Resize(x.p, x.g, grain, liveState(20, 7), 30) {
				t.Fatalf("Resize of %#x: true", w)
			}
			x.did("Resize of what it is not any more", x.add(), x.cas(grain, liveWord(20, 7), liveWord(30, now)))
		}
	}
}

// TestPromise: P14.3, a new Ver, which is told, and the store of the Pend; no state but that of to.
func TestPromise(t *testing.T) {
	for _, pages := range []int{1, 256} {
		x := in(t, pages, 3)
		grains := some(x.g)
		for i, to := range grains {
			x.by(i % 3)
			for _, from := range grains {
				for _, size := range sizes() {
					ver := x.ver()
					if got := state.Promise(x.p, x.g, to, from, size); got != ver {
						t.Fatalf("Promise tells %d, want %d", got, ver)
					}
					x.did("Promise", x.add(), x.put(to, pendWord(size, from, ver)))
				}
			}
		}
	}
}

// TestMove: P14.3, one CAS from what was seen to Moved: whether that was done.
func TestMove(t *testing.T) {
	for _, pages := range []int{1, 256} {
		x := in(t, pages, 3)
		grains := some(x.g)
		for i, from := range grains {
			x.by(i % 3)
			for _, to := range grains {
				for _, ver := range vers() {
					x.is(from, liveWord(20, 9))
					if !state.Move(x.p, x.g, from, liveState(20, 9), to, ver) {
						t.Fatal("Move: false")
					}
					x.did("Move", x.cas(from, liveWord(20, 9), movedWord(to, ver)))
					if to != from {
						x.is(to, pendWord(40, from, ver))
						x.sawNone(state.Look(x.p, x.g, from), 1)
						x.did("Look of the old place", x.load(from))
						x.saw(state.Look(x.p, x.g, to), liveState(40, ver), 4)
						x.did("Look of the new place", x.load(to), x.load(from), x.cas(to, pendWord(40, from, ver), liveWord(40, ver)), x.load(to))
					}
				}
				for _, w := range []uint64{0, liveWord(21, 9), liveWord(20, 8), liveWord(20, 10), pendWord(20, 0, 9), movedWord(to, 9)} {
					x.is(from, w)
					if state.Move(x.p, x.g, from, liveState(20, 9), to, 7) {
						t.Fatalf("Move of %#x: true", w)
					}
					x.did("Move of what it is not any more", x.cas(from, liveWord(20, 9), movedWord(to, 7)))
				}
			}
		}
	}
}

// TestSettle: P14.3, a CAS of that Pend to Live, and the store of 0 at the old place, whether the CAS was done or not: what has become of the block since stays.
func TestSettle(t *testing.T) {
	for _, pages := range []int{1, 256} {
		x := in(t, pages, 3)
		grains := some(x.g)
		for i, to := range grains {
			x.by(i % 3)
			from := grains[(i+1)%len(grains)]
			for _, size := range sizes() {
				for _, ver := range vers() {
					was := pendWord(size, from, ver)
					want := []api.Access{x.cas(to, was, liveWord(size, ver)), x.put(from, 0)}
					x.is(to, was)
					x.is(from, movedWord(to, ver))
					state.Settle(x.p, x.g, to, from, size, ver)
					x.did("Settle", want...)
					x.saw(state.Look(x.p, x.g, to), liveState(size, ver), 1)
					x.did("Look", x.load(to))
					for _, w := range []uint64{0, liveWord(size, ver), liveWord(size, ver+1), liveWord(size^1, ver), movedWord(from, ver+1), pendWord(size, from, ver+1), pendWord(size, from^1, ver), pendWord(size^1, from, ver)} {
						x.is(to, w)
						x.is(from, movedWord(to, ver))
						state.Settle(x.p, x.g, to, from, size, ver)
						x.did("Settle of what it is not any more", want...)
					}
				}
			}
		}
	}
}

// TestAbort: P14.3, 0 is stored, whatever was there.
func TestAbort(t *testing.T) {
	x := in(t, 2, 2)
	for i, to := range some(x.g) {
		x.by(i % 2)
		for _, w := range []uint64{pendWord(40, 3, 7), 0, liveWord(20, 7), movedWord(3, 7)} {
			x.is(to, w)
			state.Abort(x.p, x.g, to)
			x.did("Abort", x.put(to, 0))
			x.sawNone(state.Look(x.p, x.g, to), 1)
			x.did("Look", x.load(to))
		}
	}
}

// TestLives: P14.1 to P14.4, whole lives of blocks, one behind the other: born, resized, moved to and fro, ended at each of their places.
func TestLives(t *testing.T) {
	g := arena(t, 1, 2)
	m := zeros(t, g)
	p, q := port.New(m, 0), port.New(m, 1)
	is := func(grain, size int) {
		t.Helper()
		for _, by := range []api.Port{q, p} {
			if s := state.Look(by, g, grain); s.Live != (size != 0) || s.S.Size != size {
				t.Fatalf("grain %d: %+v, want size %d", grain, s, size)
			}
		}
	}
	for places := range 6 {
		state.Birth(p, g, 0, 20)
		is(0, 20)
		for to := 1; to <= places; to++ {
			from, s := to-1, state.Look(q, g, to-1).S
			if !state.Resize(q, g, from, s, 30) || state.Resize(p, g, from, s, 31) || state.Move(p, g, from, s, to, 1) {
				t.Fatal("what was seen ahead of a Resize is taken, or it is not done")
			}
			is(from, 30)
			s = state.Look(p, g, from).S
			ver := state.Promise(p, g, to, from, 40)
			is(to, 0)
			is(from, 30)
			if !state.Move(p, g, from, s, to, ver) || state.Move(q, g, from, s, to, ver) || state.Resize(q, g, from, s, 5) {
				t.Fatal("it is not moved once")
			}
			if to%2 == 0 { // else a Look has settled it ahead of that
				is(to, 40)
			}
			is(from, 0)
			state.Settle(p, g, to, from, 40, ver)
			is(to, 40)
			is(from, 0)
			if state.Death(q, g, from).Live {
				t.Fatal("it is ended where it was")
			}
		}
		if s := state.Death(q, g, places); !s.Live || state.Death(p, g, places).Live {
			t.Fatal("it is not ended once")
		}
	}
	for grain := range 8 {
		is(grain, 0)
		if m.Word(g.State(grain)) != 0 {
			t.Fatalf("the state of grain %d is kept", grain)
		}
	}
}

// TestSizes: P14.2, P14.3, a size that does not fit keeps its lowest bits alone, and touches no other field.
func TestSizes(t *testing.T) {
	x := in(t, 1, 1)
	for _, size := range []int{0, 65536, 65536 + 20, -1, -65536, math.MinInt, math.MaxInt} {
		fits := size & 65535
		ver := x.ver()
		state.Birth(x.p, x.g, 3, size)
		x.did("Birth", x.add(), x.put(3, liveWord(fits, ver)))
		now := x.ver()
		if !state.Resize(x.p, x.g, 3, word.State{Kind: live, Size: size, Ver: ver}, size) {
			t.Fatal("Resize: false")
		}
		x.did("Resize", x.add(), x.cas(3, liveWord(fits, ver), liveWord(fits, now)))
		ver = x.ver()
		state.Promise(x.p, x.g, 5, 3, size)
		x.did("Promise", x.add(), x.put(5, pendWord(fits, 3, ver)))
		state.Settle(x.p, x.g, 5, 3, size, ver)
		x.did("Settle", x.cas(5, pendWord(fits, 3, ver), liveWord(fits, ver)), x.put(3, 0))
	}
}

// nothing does each call with numbers of which one is no grain, and holds it to nothing.
func nothing(t *testing.T, p api.Port, g geom.Geom, to, from int) {
	t.Helper()
	s := liveState(20, 7)
	if state.Promise(p, g, to, from, 40) != 0 || state.Move(p, g, from, s, to, 7) {
		t.Fatalf("to %d, from %d: something is told", to, from)
	}
	state.Settle(p, g, to, from, 40, 7)
}

// nothingOf does likewise each call of one grain.
func nothingOf(t *testing.T, p api.Port, g geom.Geom, grain int) {
	t.Helper()
	state.Birth(p, g, grain, 20)
	state.Abort(p, g, grain)
	if state.Look(p, g, grain) != (state.Seen{}) || state.Death(p, g, grain) != (state.Seen{}) || state.Resize(p, g, grain, liveState(20, 7), 30) || state.Resize(p, g, grain, word.State{}, 30) {
		t.Fatalf("grain %d: something is told", grain)
	}
}

// TestNoGrain: P14.1 to P14.3, a grain that is none, of both that are handed in: no access; zeros, false.
func TestNoGrain(t *testing.T) {
	for _, pages := range []int{1, 2, 256} {
		x := in(t, pages, 2)
		n := 8 * pages
		for _, none := range append(wild(), n, n+1, n+7, n+8) {
			nothingOf(t, x.p, x.g, none)
			for _, grain := range []int{0, 3, n - 1, none, -1} {
				nothing(t, x.p, x.g, grain, none)
				nothing(t, x.p, x.g, none, grain)
			}
		}
		x.did("no grain")
	}
}

// TestNoPort: P14.1 to P14.3, R1, a port that is nil, and a geometry of no pages: nothing is done; zeros, false.
func TestNoPort(t *testing.T) {
	g := arena(t, 1, 1)
	x := in(t, 1, 1)
	for _, a := range []int{0, 1, 7, 8, -1, math.MaxInt, math.MinInt} {
		nothingOf(t, nil, g, a)
		nothingOf(t, nil, geom.Geom{}, a)
		nothingOf(t, x.p, geom.Geom{}, a)
		for _, b := range []int{0, 1, 7, 8, -1, math.MaxInt, math.MinInt} {
			nothing(t, nil, g, a, b)
			nothing(t, nil, geom.Geom{}, a, b)
			nothing(t, x.p, geom.Geom{}, a, b)
		}
	}
	x.did("no arena")
}

// allCalls does each call with numbers of all kinds.
func allCalls(p api.Port, g geom.Geom) {
	for _, grain := range []int{0, 1, 3, 7, 8, 15, 16, -1, math.MaxInt, math.MinInt} {
		s := state.Look(p, g, grain).S
		state.Resize(p, g, grain, s, 20)
		state.Death(p, g, grain)
		state.Birth(p, g, grain, 20)
		for _, other := range []int{0, 5, 15, 16, -1} {
			s = state.Look(p, g, grain).S
			ver := state.Promise(p, g, other, grain, 40)
			state.Move(p, g, grain, s, other, ver)
			state.Look(p, g, other)
			state.Settle(p, g, other, grain, 40, ver)
		}
		state.Death(p, g, grain)
		state.Abort(p, g, grain)
	}
}

// TestAnyMemory: R1, a memory without words, or with too few, or none, or of whichever words: each call ends; and of a port of no thread.
func TestAnyMemory(t *testing.T) {
	g := arena(t, 2, 2)
	empty, _ := mem.New(0, 0)
	for _, m := range []*mem.Memory{nil, empty} {
		p := port.New(m, 0)
		allCalls(p, g)
		p.Fresh()
		state.Birth(p, g, 3, 20)
		if s := state.Look(p, g, 3); s != (state.Seen{Lin: 3}) || state.Death(p, g, 3) != (state.Seen{Lin: 4}) {
			t.Error("there is a block where there are no words")
		}
	}
	for words := range g.Cache(0, 0, 0) {
		m, _ := mem.New(words, 0)
		for at := range words {
			store(m, at, uint64(at)*0x9e3779b97f4a7c15)
		}
		allCalls(port.New(m, 1), g)
	}
	for seed := range 200 {
		m, c := zeros(t, g), chance(seed)
		for grain := range 16 { // words of few kinds, so that they meet
			store(m, g.State(grain), stateWord(c.below(4), c.below(2), c.below(18), uint32(c.below(2)))|uint64(c.below(4))<<30)
		}
		for _, self := range []int{0, 1, 2, 64, -1, math.MaxInt, math.MinInt} {
			allCalls(port.New(m.Copy(), self), g)
		}
		for grain := range 16 {
			p := port.New(m, 0)
			look := state.Look(p, g, grain)
			if look.Live != state.Death(p, g, grain).Live || state.Look(p, g, grain).Live {
				t.Fatalf("grain %d: Death does not end what Look sees", grain)
			}
		}
	}
	var none *port.Direct
	allCalls(none, g)
}
