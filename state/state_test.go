package state_test

import (
	"math"
	"slices"
	"testing"

	"quillet/api"
	"quillet/geom"
	"quillet/mem"
	"quillet/port"
	"quillet/state"
	"quillet/word"
)

// The tests name the promises of shared/doc/14-state.md that they hold the package to. This file has what they share, the chapter's examples, and Look; the other calls are in calls_test.go, many threads in crew_test.go and rows_test.go.

// The kinds of a grain's state, by chapter 1.
const (
	none  = 0
	live  = 1
	pend  = 2
	moved = 3
)

// stateWord is a state's word, told by hand as chapter 1 says.
func stateWord(kind, size, other int, ver uint32) uint64 {
	return uint64(kind) | uint64(size)<<2 | uint64(other)<<18 | uint64(ver)<<32
}

func liveWord(size int, ver uint32) uint64        { return stateWord(live, size, 0, ver) }
func pendWord(size, other int, ver uint32) uint64 { return stateWord(pend, size, other, ver) }
func movedWord(other int, ver uint32) uint64      { return stateWord(moved, 0, other, ver) }

// liveState is what such a word tells.
func liveState(size int, ver uint32) word.State {
	return word.State{Kind: live, Size: size, Ver: ver}
}

// arena is the geometry of an arena that there can be.
func arena(t *testing.T, pages, threads int) geom.Geom {
	t.Helper()
	g, ok := geom.New(pages, threads)
	if !ok {
		t.Fatalf("geom.New(%d, %d): false", pages, threads)
	}
	return g
}

// store lays a word of a memory.
func store(m *mem.Memory, at int, w uint64) {
	m.Do(api.Access{Kind: api.Store, At: at, A: w})
}

// zeros is a memory of an arena's words and bytes, all of which are 0.
func zeros(t *testing.T, g geom.Geom) *mem.Memory {
	t.Helper()
	m, e := mem.New(g.Words(), g.Pages()*api.Page)
	if e != api.OK {
		t.Fatalf("mem.New: %d", e)
	}
	return m
}

// unlike is such a memory, no two of whose words are the same, and none of which is 0.
func unlike(t *testing.T, g geom.Geom) *mem.Memory {
	t.Helper()
	m := zeros(t, g)
	for at := range m.Words() {
		store(m, at, uint64(at)*0x9e3779b97f4a7c15+0x1234567)
	}
	for at := range m.Bytes() {
		m.Do(api.Access{Kind: api.Put, At: at, A: uint64(at)*7 + 1})
	}
	return m
}

// watch is a port that writes down its accesses. Ahead of each of them it does to the memory what meanwhile says, which is told how many there were.
type watch struct {
	*port.Direct
	m         *mem.Memory
	seen      []api.Access
	told      int
	meanwhile func(n int, m *mem.Memory)
}

func (w *watch) note(a api.Access) {
	if w.meanwhile != nil {
		w.meanwhile(len(w.seen), w.m)
	}
	w.seen = append(w.seen, a)
}

func (w *watch) Load(at int) uint64 {
	w.note(loaded(at))
	return w.Direct.Load(at)
}

func (w *watch) Store(at int, v uint64) {
	w.note(stored(at, v))
	w.Direct.Store(at, v)
}

func (w *watch) CAS(at int, old, new uint64) bool {
	w.note(swapped(at, old, new))
	return w.Direct.CAS(at, old, new)
}

func (w *watch) Add(at int, n uint64) uint64 {
	w.note(api.Access{Kind: api.Add, At: at, A: n})
	return w.Direct.Add(at, n)
}

func (w *watch) Get(at int) byte {
	w.note(api.Access{Kind: api.Get, At: at})
	return w.Direct.Get(at)
}

func (w *watch) Put(at int, b byte) {
	w.note(api.Access{Kind: api.Put, At: at, A: uint64(b)})
	w.Direct.Put(at, b)
}

func (w *watch) Tell(r api.Result) {
	w.told++
	w.Direct.Tell(r)
}

// loaded, stored, swapped and counted are accesses.
func loaded(at int) api.Access           { return api.Access{Kind: api.Load, At: at} }
func stored(at int, w uint64) api.Access { return api.Access{Kind: api.Store, At: at, A: w} }
func counted(at int) api.Access          { return api.Access{Kind: api.Add, At: at, A: 1} }
func swapped(at int, from, to uint64) api.Access {
	return api.Access{Kind: api.CAS, At: at, A: from, B: to}
}

// lab is a memory in which each call is held to its accesses.
type lab struct {
	t       *testing.T
	g       geom.Geom
	m, like *mem.Memory // the memory, and what it ought to be
	p       *watch
	serials map[int]uint64 // what Serial of each thread is, by hand
}

// in is a lab in a memory of unlike words, in which thread 0 goes on first.
func in(t *testing.T, pages, threads int) *lab {
	t.Helper()
	g := arena(t, pages, threads)
	m := unlike(t, g)
	x := &lab{t: t, g: g, m: m, like: m.Copy(), serials: map[int]uint64{}}
	for self := range threads {
		x.serials[self] = uint64(self + 3)
		x.lay(g.Serial(self), x.serials[self])
	}
	x.by(0)
	return x
}

// by hands the lab over to another thread.
func (x *lab) by(self int) { x.p = &watch{Direct: port.New(x.m, self), m: x.m} }

// lay lays a word by hand.
func (x *lab) lay(at int, w uint64) {
	store(x.m, at, w)
	store(x.like, at, w)
}

// is lays a grain's state by hand.
func (x *lab) is(grain int, w uint64) { x.lay(x.g.State(grain), w) }

// ahead lays a grain's state ahead of the access of that number, from 0 on, of the next call.
func (x *lab) ahead(n, grain int, w uint64) {
	before := x.p.meanwhile
	x.p.meanwhile = func(i int, m *mem.Memory) {
		if before != nil {
			before(i, m)
		}
		if i == n {
			store(m, x.g.State(grain), w)
		}
	}
}

// ver is the Ver that is the next one of the lab's thread, by hand: what Serial is by an Add of 1, times 64, and the thread's number.
func (x *lab) ver() uint32 { return uint32(x.serials[x.p.Self()]+1)*64 + uint32(x.p.Self()) }

// The accesses of the lab's grains, and of its thread's Serial.
func (x *lab) load(grain int) api.Access             { return loaded(x.g.State(grain)) }
func (x *lab) put(grain int, w uint64) api.Access    { return stored(x.g.State(grain), w) }
func (x *lab) cas(grain int, a, b uint64) api.Access { return swapped(x.g.State(grain), a, b) }
func (x *lab) add() api.Access {
	x.serials[x.p.Self()]++
	return counted(x.g.Serial(x.p.Self()))
}

// did holds a call to having had these accesses, and no others, and to having told nothing. Grains that are laid meanwhile are to be what they are then.
func (x *lab) did(what string, want ...api.Access) {
	x.t.Helper()
	for n, a := range want {
		if x.p.meanwhile != nil {
			x.p.meanwhile(n, x.like)
		}
		x.like.Do(a)
	}
	if !slices.Equal(x.p.seen, want) {
		x.t.Fatalf("%s: the accesses %v, want %v", what, x.p.seen, want)
	}
	if !mem.Same(x.m, x.like) {
		x.t.Fatalf("%s: another word is touched", what)
	}
	if x.p.told != 0 {
		x.t.Fatalf("%s tells what only a call tells", what)
	}
	x.by(x.p.Self())
}

// saw holds what a Look, or a Death, tells to a block that is live.
func (x *lab) saw(seen state.Seen, s word.State, lin int) {
	x.t.Helper()
	if want := (state.Seen{S: s, Live: true, Lin: lin}); seen != want {
		x.t.Fatalf("it tells %+v, want %+v", seen, want)
	}
}

// sawNone holds it to none that is.
func (x *lab) sawNone(seen state.Seen, lin int) {
	x.t.Helper()
	if want := (state.Seen{Lin: lin}); seen != want {
		x.t.Fatalf("it tells %+v, want %+v", seen, want)
	}
}

// some are grains of an arena: the first ones, the last ones, and some between.
func some(g geom.Geom) []int {
	n := 8 * g.Pages()
	l := []int{0, 1, 2, 7, 8, n / 2, n - 2, n - 1}
	slices.Sort(l)
	return slices.DeleteFunc(slices.Compact(l), func(grain int) bool { return grain < 0 || grain >= n })
}

// sizes and vers are some that there may be: one block may have all of the greatest arena.
func sizes() []int   { return []int{1, 2, 8, 20, 255, 256, 4096, 16383, 16384, 65535} }
func vers() []uint32 { return []uint32{0, 1, 63, 64, 65, 1 << 20, math.MaxUint32 - 1, math.MaxUint32} }

// wild are numbers that are no grains.
func wild() []int {
	l := []int{-1, -2, -3, -7, -8, -9, -64, -256, math.MinInt, math.MinInt + 1, math.MinInt32, math.MaxInt, math.MaxInt - 1, math.MaxInt - 7, math.MaxInt32}
	for bit := 11; bit < 63; bit++ { // what is as a number that fits in its lowest bits alone
		for low := range 5 {
			l = append(l, 1<<bit+low, -1<<bit+low-5)
		}
	}
	return l
}

// chance is a row of numbers by a short rule.
type chance uint64

func (c *chance) below(n int) int {
	*c = *c*6364136223846793005 + 1442695040888963407
	return int(uint64(*c) >> 33 % uint64(n))
}

// TestExamples: P14.1 to P14.3, the chapter's examples.
func TestExamples(t *testing.T) {
	g := arena(t, 1, 1)
	p := port.New(zeros(t, g), 0)
	sees := func(what string, seen state.Seen, isLive bool, size int) {
		t.Helper()
		if seen.Live != isLive || seen.S.Size != size || isLive != (seen.S.Kind == live) {
			t.Errorf("%s: %+v", what, seen)
		}
	}
	state.Birth(p, g, 3, 20)
	sees("Look behind Birth", state.Look(p, g, 3), true, 20)
	sees("Death", state.Death(p, g, 3), true, 20)
	sees("Look behind Death", state.Look(p, g, 3), false, 0)
	sees("Death behind Death", state.Death(p, g, 3), false, 0)

	state.Birth(p, g, 3, 20)
	s := state.Look(p, g, 3).S
	ver := state.Promise(p, g, 5, 3, 40)
	sees("Look behind Promise", state.Look(p, g, 5), false, 0)
	if !state.Move(p, g, 3, s, 5, ver) {
		t.Error("Move: false")
	}
	sees("Look of the old place", state.Look(p, g, 3), false, 0)
	sees("Look of the new place", state.Look(p, g, 5), true, 40)
}

// TestLook: P14.1, a state that is no Pend: one access, and what it tells; Lin is that access's number, whatever was done ahead of it.
func TestLook(t *testing.T) {
	for _, pages := range []int{1, 2, 256} {
		x := in(t, pages, 2)
		for i, grain := range some(x.g) {
			x.by(i % 2)
			for _, ver := range vers() {
				for _, size := range sizes() {
					x.is(grain, liveWord(size, ver))
					x.saw(state.Look(x.p, x.g, grain), liveState(size, ver), 1)
					x.did("Look of Live", x.load(grain))
				}
				for _, w := range []uint64{0, stateWord(none, 20, 3, ver), movedWord(3, ver), movedWord(grain, ver), stateWord(moved, 20, 0, ver)} {
					x.is(grain, w)
					x.sawNone(state.Look(x.p, x.g, grain), 1)
					x.did("Look of None, of Moved", x.load(grain))
				}
			}
			x.is(grain, liveWord(20, 7))
			for n := range 3 {
				x.saw(state.Look(x.p, x.g, grain), liveState(20, 7), n+1)
			}
			x.is(grain, 0)
			x.sawNone(state.Look(x.p, x.g, grain), 4)
			x.is(grain, pendWord(20, (grain+1)%8, 7))
			x.is((grain+1)%8, 0)
			x.sawNone(state.Look(x.p, x.g, grain), 6)
		}
	}
}

// others are states of a grain that do not say that the block that it was is at the grain to now, by that Ver.
func others(to int, ver uint32) []uint64 {
	return []uint64{
		0, liveWord(20, ver), liveWord(20, 0), stateWord(live, 20, to, ver), pendWord(20, to, ver), pendWord(20, 0, ver),
		movedWord(to^1, ver), movedWord(to^2048, ver), movedWord(to, ver+1), movedWord(to, ver^1<<31), movedWord(to^1, ver-1), stateWord(none, 20, to, ver),
	}
}

// TestLookPend: P14.1, a Pend: its Other is read; it is not live, and the Pend is there behind that: Lin is the number of the Other's access. Its Other may be itself, or no grain.
func TestLookPend(t *testing.T) {
	for _, pages := range []int{1, 3, 256} {
		x := in(t, pages, 2)
		grains := some(x.g)
		for i, to := range grains {
			from := grains[(i+1)%len(grains)]
			for _, ver := range vers() {
				x.is(to, pendWord(40, from, ver))
				for _, w := range others(to, ver) {
					x.is(from, w)
					x.sawNone(state.Look(x.p, x.g, to), 2)
					x.did("Look of a promised block", x.load(to), x.load(from), x.load(to))
				}
				x.is(to, pendWord(40, to, ver))
				x.sawNone(state.Look(x.p, x.g, to), 2)
				x.did("Look of one that is its own Other", x.load(to), x.load(to), x.load(to))
			}
		}
	}
	x := in(t, 1, 1)
	for _, other := range []int{8, 9, 2047, 4095} {
		x.is(3, pendWord(40, other, 7))
		x.sawNone(state.Look(x.p, x.g, 3), 2)
		x.did("Look of one whose Other is no grain", x.load(3), loaded(-1), x.load(3))
	}
}

// TestLookSettles: P14.1, a Pend whose Other has moved to it by the same Ver: it is live: the state is CASed to Live of its Size and Ver, and read again.
func TestLookSettles(t *testing.T) {
	for _, pages := range []int{1, 3, 256} {
		x := in(t, pages, 3)
		grains := some(x.g)
		for i, to := range grains {
			x.by(i % 3)
			from := grains[(i+1)%len(grains)]
			for _, ver := range vers() {
				for _, size := range sizes() {
					w := pendWord(size, from, ver)
					x.is(to, w)
					x.is(from, movedWord(to, ver))
					x.saw(state.Look(x.p, x.g, to), liveState(size, ver), 4)
					x.did("Look of a moved block", x.load(to), x.load(from), x.cas(to, w, liveWord(size, ver)), x.load(to))
					x.sawNone(state.Look(x.p, x.g, from), 1)
					x.did("Look of where it was", x.load(from))
				}
			}
		}
	}
}

// TestLookMeanwhile: P14.1, what others do to the block between a Look's accesses: a CAS that is not done, and a Pend that is not there any more, have all begun again.
func TestLookMeanwhile(t *testing.T) {
	const to, from = 5, 3
	begin := func() *lab {
		x := in(t, 1, 2)
		x.is(to, pendWord(40, from, 7))
		x.is(from, movedWord(to, 7))
		return x
	}
	vain := func(x *lab) []api.Access {
		return []api.Access{x.load(to), x.load(from), x.cas(to, pendWord(40, from, 7), liveWord(40, 7)), x.load(to)}
	}
	for _, n := range []int{2, 3} { // behind the CAS, too
		x := begin()
		x.ahead(n, to, liveWord(40, 7))
		x.saw(state.Look(x.p, x.g, to), liveState(40, 7), 4)
		x.did("another one settles it", vain(x)...)

		x = begin()
		x.ahead(n, to, 0)
		x.sawNone(state.Look(x.p, x.g, to), 4)
		x.did("it dies", vain(x)...)

		x = begin()
		x.ahead(n, to, movedWord(6, 9))
		x.sawNone(state.Look(x.p, x.g, to), 4)
		x.did("it moves on", vain(x)...)

		x = begin()
		x.ahead(n, to, liveWord(11, 9))
		x.saw(state.Look(x.p, x.g, to), liveState(11, 9), 4)
		x.did("it gets another size", vain(x)...)

		x = begin()
		x.ahead(n, to, pendWord(50, 2, 9))
		x.is(2, liveWord(11, 8))
		x.sawNone(state.Look(x.p, x.g, to), 5)
		x.did("another block is promised there", append(vain(x), x.load(2), x.load(to))...)

		x = begin()
		x.ahead(n, to, pendWord(50, 2, 9))
		x.is(2, movedWord(to, 9))
		x.saw(state.Look(x.p, x.g, to), liveState(50, 9), 7)
		x.did("another block has moved there", append(vain(x), x.load(2), x.cas(to, pendWord(50, 2, 9), liveWord(50, 9)), x.load(to))...)
	}
	x := begin()
	x.ahead(1, from, 0)
	x.ahead(1, to, liveWord(40, 7))
	x.saw(state.Look(x.p, x.g, to), liveState(40, 7), 4)
	x.did("another one settles it, and its place is forgotten", x.load(to), x.load(from), x.load(to), x.load(to))
}

// TestLookPromisedMeanwhile: P14.1, the state of a promised block that is not live is not the same word when it is read again: all is begun again, as often as that is so.
func TestLookPromisedMeanwhile(t *testing.T) {
	const to, from = 5, 3
	first := pendWord(40, from, 7)
	begin := func() *lab {
		x := in(t, 1, 2)
		x.is(to, first)
		x.is(from, liveWord(20, 6))
		return x
	}
	round := func(x *lab) []api.Access { return []api.Access{x.load(to), x.load(from), x.load(to)} }
	for _, n := range []int{1, 2} {
		x := begin()
		x.ahead(n, to, 0)
		x.sawNone(state.Look(x.p, x.g, to), 4)
		x.did("the promise is taken back", append(round(x), x.load(to))...)

		x = begin()
		x.ahead(n, to, liveWord(11, 9))
		x.saw(state.Look(x.p, x.g, to), liveState(11, 9), 4)
		x.did("it is born", append(round(x), x.load(to))...)
	}
	for _, w := range []uint64{pendWord(40, from, 8), pendWord(41, from, 7), pendWord(40, from, 7|1<<31), first | 1<<30, first | 1<<31} {
		x := begin()
		x.ahead(2, to, w)
		x.sawNone(state.Look(x.p, x.g, to), 5)
		x.did("another promise", append(round(x), round(x)...)...)
	}
	x := begin()
	x.ahead(2, from, movedWord(to, 7))
	x.sawNone(state.Look(x.p, x.g, to), 2)
	x.did("it moves behind Lin", round(x)...)

	x = begin()
	x.ahead(1, from, movedWord(to, 7))
	x.saw(state.Look(x.p, x.g, to), liveState(40, 7), 4)
	x.did("it moves ahead of that", x.load(to), x.load(from), x.cas(to, first, liveWord(40, 7)), x.load(to))

	x = begin()
	var all []api.Access
	for n := range 50 { // a Pend of another Ver in each round
		x.ahead(3*n+2, to, pendWord(40, from, uint32(n+8)))
		all = append(all, round(x)...)
	}
	x.sawNone(state.Look(x.p, x.g, to), 152)
	x.did("a promise in each round", append(all, round(x)...)...)
}
