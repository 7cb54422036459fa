package pool_test

import (
	"math"
	"slices"
	"testing"

	"quillet/api"
	"quillet/geom"
	"quillet/mem"
	"quillet/pool"
	"quillet/port"
	"quillet/word"
)

// The tests name the promises of shared/doc/08-pool.md that they hold the package to. Those of threads whose accesses stand in any row are in rows_test.go.

// ref is the word of a Ref, packed as chapter 1 says.
func ref(idx int, ver uint32) uint64 { return uint64(idx) | uint64(ver)<<32 }

// mark is a Ref's Mark.
const mark = 1 << 24

// idxOf and verOf are what such a word has.
func idxOf(w uint64) int    { return int(w & 0xffffff) }
func verOf(w uint64) uint32 { return uint32(w >> 32) }

// arena is the geometry of an arena that there can be.
func arena(t *testing.T, pages, threads int) geom.Geom {
	t.Helper()
	g, ok := geom.New(pages, threads)
	if !ok {
		t.Fatalf("geom.New(%d, %d): false", pages, threads)
	}
	return g
}

// put lays a word of a memory.
func put(m *mem.Memory, at int, w uint64) {
	m.Do(api.Access{Kind: api.Store, At: at, A: w})
}

// unlike is a memory of the arena's words and bytes, no two of which are the same.
func unlike(t *testing.T, g geom.Geom) *mem.Memory {
	t.Helper()
	m, e := mem.New(g.Words(), g.Pages()*api.Page)
	if e != api.OK {
		t.Fatalf("mem.New: %d", e)
	}
	for at := range m.Words() {
		put(m, at, uint64(at)*0x9e3779b97f4a7c15+0x1234567)
	}
	for at := range m.Bytes() {
		m.Do(api.Access{Kind: api.Put, At: at, A: uint64(at)*7 + 1})
	}
	return m
}

// ready is an unlike memory whose pool was made ready: no hazards, no retired nodes, and all nodes free, laid by hand.
func ready(t *testing.T, g geom.Geom) *mem.Memory {
	t.Helper()
	m := unlike(t, g)
	for self := range g.Threads() {
		put(m, g.Gone(self), 0)
		put(m, g.Hazard(self, 0), 0)
		put(m, g.Hazard(self, 1), 0)
	}
	all := make([]int, g.Nodes())
	for i := range all {
		all[i] = i + 1
	}
	stack(m, g, 0, all...)
	return m
}

// stack lays the stack of free nodes, the topmost one first.
func stack(m *mem.Memory, g geom.Geom, ver uint32, nodes ...int) {
	at, v := g.Pool(), ver
	for _, node := range nodes {
		put(m, at, ref(node, v))
		at, v = g.Next(node), 0
	}
	put(m, at, ref(0, v))
}

// free are the nodes of the stack, the topmost one first; false, if they do not end, or one of them is none.
func free(m *mem.Memory, g geom.Geom) ([]int, bool) {
	var l []int
	for node := idxOf(m.Word(g.Pool())); node != 0; node = idxOf(m.Word(g.Next(node))) {
		if node > g.Nodes() || len(l) == g.Nodes() {
			return l, false
		}
		l = append(l, node)
	}
	return l, true
}

// isFree holds a memory to the nodes of its stack.
func isFree(t *testing.T, m *mem.Memory, g geom.Geom, want ...int) {
	t.Helper()
	if got, ok := free(m, g); !ok || !slices.Equal(got, want) {
		t.Fatalf("free are %v, want %v", got, want)
	}
}

// gone is a thread's list of retired nodes.
func gone(m *mem.Memory, g geom.Geom, self int) []int {
	var l []int
	for i := range min(m.Word(g.Gone(self)), uint64(2*g.Threads()+2)) {
		l = append(l, int(m.Word(g.Retired(self, int(i)))))
	}
	return l
}

// isGone holds a memory to a thread's list.
func isGone(t *testing.T, m *mem.Memory, g geom.Geom, self int, want ...int) {
	t.Helper()
	if got := gone(m, g, self); m.Word(g.Gone(self)) != uint64(len(want)) || !slices.Equal(got, want) {
		t.Fatalf("thread %d has retired %v (%d), want %v", self, got, m.Word(g.Gone(self)), want)
	}
}

// retires lays a thread's list.
func retires(m *mem.Memory, g geom.Geom, self int, nodes ...int) {
	for i, node := range nodes {
		put(m, g.Retired(self, i), uint64(node))
	}
	put(m, g.Gone(self), uint64(len(nodes)))
}

// same holds a memory to another one, word by word. The places behind a thread's list may be whatever they are.
func same(t *testing.T, what string, got, want *mem.Memory, g geom.Geom) {
	t.Helper()
	want = want.Copy()
	for self := range g.Threads() {
		for i := range 2*g.Threads() + 2 {
			if at := g.Retired(self, i); uint64(i) >= want.Word(g.Gone(self)) {
				put(want, at, got.Word(at))
			}
		}
	}
	if mem.Same(got, want) {
		return
	}
	for at := range got.Words() {
		if got.Word(at) != want.Word(at) {
			t.Fatalf("%s: word %d is %#x, want %#x", what, at, got.Word(at), want.Word(at))
		}
	}
	t.Fatalf("%s: a byte is touched", what)
}

// watch is a port that writes down its accesses. Ahead of each of them it does what meanwhile says, which is told how many there were.
type watch struct {
	*port.Direct
	seen      []api.Access
	told      int
	meanwhile func(n int)
}

func (w *watch) note(a api.Access) {
	if w.meanwhile != nil {
		w.meanwhile(len(w.seen))
	}
	w.seen = append(w.seen, a)
}

func (w *watch) Load(at int) uint64 {
	w.note(api.Access{Kind: api.Load, At: at})
	return w.Direct.Load(at)
}

func (w *watch) Store(at int, v uint64) {
	w.note(api.Access{Kind: api.Store, At: at, A: v})
	w.Direct.Store(at, v)
}

func (w *watch) CAS(at int, old, new uint64) bool {
	w.note(api.Access{Kind: api.CAS, At: at, A: old, B: new})
	return w.Direct.CAS(at, old, new)
}

func (w *watch) Add(at int, n uint64) uint64 {
	w.note(api.Access{Kind: api.Add, At: at, A: n})
	return w.Direct.Add(at, n)
}

func (w *watch) Get(at int) byte {
	w.note(api.Access{Kind: api.Get, At: at})
	return w.Direct.Get(at)
}

func (w *watch) Put(at int, b byte) {
	w.note(api.Access{Kind: api.Put, At: at, A: uint64(b)})
	w.Direct.Put(at, b)
}

func (w *watch) Tell(r api.Result) {
	w.told++
	w.Direct.Tell(r)
}

// watched is a port of a thread to a memory that writes down.
func watched(m *mem.Memory, self int) *watch {
	return &watch{Direct: port.New(m, self)}
}

// had holds a port to the accesses that it had, and forgets them.
func (w *watch) had(t *testing.T, what string, want ...api.Access) {
	t.Helper()
	if !slices.Equal(w.seen, want) || w.told != 0 {
		t.Fatalf("%s has the accesses %v, want %v; told %d times", what, w.seen, want, w.told)
	}
	w.seen = nil
}

func load(at int) api.Access { return api.Access{Kind: api.Load, At: at} }
func store(at int, v uint64) api.Access {
	return api.Access{Kind: api.Store, At: at, A: v}
}
func cas(at int, old, new uint64) api.Access {
	return api.Access{Kind: api.CAS, At: at, A: old, B: new}
}

// acquires holds Acquires one behind the other to what they answer.
func acquires(t *testing.T, p api.Port, g geom.Geom, want ...int) {
	t.Helper()
	for i, node := range want {
		if got := pool.Acquire(p, g); got != node {
			t.Fatalf("Acquire %d = %d, want %d", i, got, node)
		}
	}
}

// chance is a row of numbers by a short rule.
type chance uint64

func (c *chance) below(n int) int {
	*c = *c*6364136223846793005 + 1442695040888963407
	return int(uint64(*c) >> 33 % uint64(n))
}

// TestExamples: P8.1 to P8.3, the chapter's examples.
func TestExamples(t *testing.T) {
	g := arena(t, 1, 1)
	if g.Nodes() != 13 {
		t.Fatalf("%d nodes", g.Nodes())
	}
	m, _ := mem.New(g.Words(), 64)
	p := port.New(m, 0)
	pool.Init(p, g)
	acquires(t, p, g, 1, 2)
	pool.Give(p, g, 1)
	acquires(t, p, g, 1)
	acquires(t, p, g, 3, 4, 5, 6, 7, 8, 9, 10, 11, 12, 13, 0)
	put(m, g.Hazard(0, 1), 5)
	for node := 4; node <= 6; node++ {
		pool.Retire(p, g, node)
	}
	acquires(t, p, g, 6, 4)
	isGone(t, m, g, 0, 5)
	acquires(t, p, g, 0)
}

// TestInit: P8.1, one store each of the words Pool and Next, whatever they were, and no other word.
func TestInit(t *testing.T) {
	for _, x := range [][2]int{{1, 1}, {1, 2}, {3, 5}, {1, 64}, {256, 1}, {256, 64}} {
		g := arena(t, x[0], x[1])
		m := unlike(t, g)
		want := m.Copy()
		put(want, g.Pool(), ref(1, 0))
		for node := 1; node < g.Nodes(); node++ {
			put(want, g.Next(node), ref(node+1, 0))
		}
		put(want, g.Next(g.Nodes()), 0)
		p := watched(m, x[1]-1)
		pool.Init(p, g)
		same(t, "Init", m, want, g)
		stored := map[int]int{}
		for _, a := range p.seen {
			if a.Kind != api.Store {
				t.Fatalf("%v: Init has an access %v", x, a)
			}
			stored[a.At]++
		}
		if len(stored) != g.Nodes()+1 || len(p.seen) != g.Nodes()+1 || p.told != 0 {
			t.Fatalf("%v: Init stores %d words, %d times", x, len(stored), len(p.seen))
		}
	}
}

// TestInitAgain: P8.1, all nodes are free behind Init, whatever was done ahead.
func TestInitAgain(t *testing.T) {
	g := arena(t, 1, 1)
	m := ready(t, g)
	want := m.Copy()
	p := port.New(m, 0)
	acquires(t, p, g, 1, 2, 3, 4, 5)
	pool.Give(p, g, 2)
	pool.Init(p, g)
	same(t, "Init", m, want, g)
	for node := 1; node <= 13; node++ {
		acquires(t, p, g, node)
	}
	acquires(t, p, g, 0)
}

// TestAcquireAll: P8.1, each node in its row, by three accesses, with Pool's Ver one greater each time; then none, by one access, and nothing changes.
func TestAcquireAll(t *testing.T) {
	for _, x := range [][2]int{{1, 1}, {2, 3}, {1, 64}} {
		g := arena(t, x[0], x[1])
		m := ready(t, g)
		want := m.Copy()
		p := watched(m, x[1]-1)
		for node := 1; node <= g.Nodes(); node++ {
			below := node + 1
			if node == g.Nodes() {
				below = 0
			}
			acquires(t, p, g, node)
			old, new := ref(node, uint32(node-1)), ref(below, uint32(node))
			p.had(t, "Acquire", load(g.Pool()), load(g.Next(node)), cas(g.Pool(), old, new))
			put(want, g.Pool(), new)
		}
		same(t, "Acquire", m, want, g)
		for range 3 {
			acquires(t, p, g, 0)
			p.had(t, "Acquire of none", load(g.Pool()))
		}
		same(t, "Acquire of none", m, want, g)
	}
}

// vers are such from which one more wraps round, or carries far.
var vers = []uint32{0, 1, 5, 0xffff, 1<<24 - 1, 1<<31 - 1, 1 << 31, math.MaxUint32 - 1, math.MaxUint32}

// TestVer: P8.1, each change of Pool has a Ver one greater, modulo 2^32, of a stack that is empty, too.
func TestVer(t *testing.T) {
	g := arena(t, 1, 1)
	for _, ver := range vers {
		m := ready(t, g)
		stack(m, g, ver, 7)
		p := port.New(m, 0)
		is := func(idx int, more uint32) {
			t.Helper()
			if got := m.Word(g.Pool()); got != ref(idx, ver+more) {
				t.Fatalf("Pool is %#x, want %#x", got, ref(idx, ver+more))
			}
		}
		acquires(t, p, g, 7)
		is(0, 1)
		acquires(t, p, g, 0)
		is(0, 1)
		pool.Give(p, g, 9)
		is(9, 2)
		pool.Give(p, g, 7)
		is(7, 3)
		acquires(t, p, g, 7, 9, 0)
		is(0, 5)
		pool.Give(p, g, 13)
		is(13, 6)
		isFree(t, m, g, 13)
	}
}

// TestGive: P8.1, a node becomes the topmost one, by three accesses: its Next has no Mark and no Ver, whatever it had, and no other word is touched.
func TestGive(t *testing.T) {
	g := arena(t, 1, 2)
	row := []int{1, g.Nodes(), 2, 17, 16, 5}
	for _, ver := range vers {
		m := ready(t, g)
		stack(m, g, ver)
		want := m.Copy()
		p := watched(m, 1)
		top := 0
		for i, node := range row {
			was := ref(12, 99) | mark
			put(m, g.Next(node), was)
			pool.Give(p, g, node)
			old, new := ref(top, ver+uint32(i)), ref(node, ver+uint32(i)+1)
			p.had(t, "Give", load(g.Pool()), store(g.Next(node), ref(top, 0)), cas(g.Pool(), old, new))
			put(want, g.Next(node), ref(top, 0))
			put(want, g.Pool(), new)
			same(t, "Give", m, want, g)
			top = node
		}
		isFree(t, m, g, 5, 16, 17, 2, g.Nodes(), 1)
		acquires(t, p, g, 5, 16, 17, 2, g.Nodes(), 1, 0)
	}
}

// TestAcquireMeets: P8.1, P8.4, Pool changes between Acquire's accesses, ahead of each: it is begun again from reading Pool on till its CAS is done, and is not taken in by a topmost node that came back.
func TestAcquireMeets(t *testing.T) {
	g := arena(t, 1, 2)
	for _, x := range []struct {
		name      string
		does      func(q api.Port)
		ahead     int // of which access
		want      int
		accesses  int
		leftBelow []int
	}{
		{"another one is taken ahead", func(q api.Port) { pool.Acquire(q, g) }, 0, 4, 3, []int{5}},
		{"the topmost one is taken", func(q api.Port) { pool.Acquire(q, g) }, 1, 4, 6, []int{5}},
		{"the topmost one is taken late", func(q api.Port) { pool.Acquire(q, g) }, 2, 4, 6, []int{5}},
		{"another one is given", func(q api.Port) { pool.Give(q, g, 9) }, 2, 9, 6, []int{3, 4, 5}},
		{"all are taken", func(q api.Port) { pool.Acquire(q, g); pool.Acquire(q, g); pool.Acquire(q, g) }, 2, 0, 4, nil},
		{"the topmost one goes and comes back", func(q api.Port) { pool.Give(q, g, pool.Acquire(q, g)) }, 2, 3, 6, []int{4, 5}},
		{"the one below is taken, and the topmost one comes back", func(q api.Port) {
			top := pool.Acquire(q, g)
			pool.Acquire(q, g)
			pool.Give(q, g, top)
		}, 2, 3, 6, []int{5}},
		{"the topmost one comes back above another one", func(q api.Port) {
			top := pool.Acquire(q, g)
			pool.Give(q, g, 9)
			pool.Give(q, g, top)
		}, 2, 3, 6, []int{9, 4, 5}},
	} {
		m := ready(t, g)
		stack(m, g, math.MaxUint32-2, 3, 4, 5)
		p, q := watched(m, 0), port.New(m, 1)
		p.meanwhile = func(n int) {
			if n == x.ahead {
				x.does(q)
			}
		}
		if got := pool.Acquire(p, g); got != x.want || len(p.seen) != x.accesses {
			t.Fatalf("%s: Acquire = %d, by %d accesses, want %d, by %d", x.name, got, len(p.seen), x.want, x.accesses)
		}
		if ver := verOf(m.Word(g.Pool())); x.accesses > 4 && p.seen[5] != cas(g.Pool(), ref(x.want, ver-1), ref(x.leftBelow[0], ver)) {
			t.Errorf("%s: the last access is %v", x.name, p.seen[5])
		}
		isFree(t, m, g, x.leftBelow...)
	}
}

// TestGiveMeets: P8.1, P8.4, Pool changes between Give's accesses: it is begun again from reading Pool on, and its Next is of what is topmost then.
func TestGiveMeets(t *testing.T) {
	g := arena(t, 1, 2)
	for _, x := range []struct {
		name     string
		does     func(q api.Port)
		ahead    int
		accesses int
		left     []int
	}{
		{"one is taken ahead", func(q api.Port) { pool.Acquire(q, g) }, 0, 3, []int{8, 4}},
		{"the topmost one is taken", func(q api.Port) { pool.Acquire(q, g) }, 1, 6, []int{8, 4}},
		{"the topmost one is taken late", func(q api.Port) { pool.Acquire(q, g) }, 2, 6, []int{8, 4}},
		{"another one is given", func(q api.Port) { pool.Give(q, g, 9) }, 2, 6, []int{8, 9, 3, 4}},
		{"all are taken", func(q api.Port) { pool.Acquire(q, g); pool.Acquire(q, g) }, 2, 6, []int{8}},
		{"the topmost one goes and comes back", func(q api.Port) { pool.Give(q, g, pool.Acquire(q, g)) }, 2, 6, []int{8, 3, 4}},
	} {
		m := ready(t, g)
		stack(m, g, math.MaxUint32-1, 3, 4)
		p, q := watched(m, 0), port.New(m, 1)
		p.meanwhile = func(n int) {
			if n == x.ahead {
				x.does(q)
			}
		}
		pool.Give(p, g, 8)
		if len(p.seen) != x.accesses {
			t.Errorf("%s: Give has the accesses %v", x.name, p.seen)
		}
		below := 0
		if len(x.left) > 1 {
			below = x.left[1]
		}
		if m.Word(g.Next(8)) != ref(below, 0) {
			t.Errorf("%s: Next is %#x", x.name, m.Word(g.Next(8)))
		}
		isFree(t, m, g, x.left...)
	}
}

// TestAgainAndAgain: P8.1, Pool changes many times, ahead of each CAS but the last one.
func TestAgainAndAgain(t *testing.T) {
	g := arena(t, 1, 2)
	for _, times := range []int{1, 2, 3, 4, 10, 100, 3000} {
		for _, give := range []bool{false, true} {
			m := ready(t, g)
			stack(m, g, 0, 3, 4)
			p, q := watched(m, 0), port.New(m, 1)
			p.meanwhile = func(n int) {
				if n%3 == 2 && n/3 < times {
					pool.Give(q, g, pool.Acquire(q, g))
				}
			}
			if give {
				pool.Give(p, g, 8)
				isFree(t, m, g, 8, 3, 4)
			} else {
				acquires(t, p, g, 3)
				isFree(t, m, g, 4)
			}
			if len(p.seen) != 3*times+3 || verOf(m.Word(g.Pool())) != uint32(2*times+1) {
				t.Fatalf("%d times: %d accesses, and Pool is %#x", times, len(p.seen), m.Word(g.Pool()))
			}
		}
	}
}

// stubborn is a port whose first CASes fail, though nothing has changed.
type stubborn struct {
	*port.Direct
	fails int
}

func (s *stubborn) CAS(at int, old, new uint64) bool {
	if s.fails > 0 {
		s.fails--
		return s.Direct.CAS(-1, old, new)
	}
	return s.Direct.CAS(at, old, new)
}

// TestStubborn: P8.1, a CAS that fails is tried again, whatever Pool is then.
func TestStubborn(t *testing.T) {
	g := arena(t, 1, 1)
	for _, fails := range []int{1, 2, 3, 4, 20, 100} {
		m := ready(t, g)
		p := &stubborn{port.New(m, 0), fails}
		acquires(t, p, g, 1)
		if p.Steps() != 3*fails+3 {
			t.Fatalf("Acquire has %d accesses behind %d that fail", p.Steps(), fails)
		}
		p.Fresh()
		p.fails = fails
		pool.Give(p, g, 1)
		if p.Steps() != 3*fails+3 || m.Word(g.Pool()) != ref(1, 2) {
			t.Fatalf("Give has %d accesses behind %d that fail, and Pool is %#x", p.Steps(), fails, m.Word(g.Pool()))
		}
	}
}

// TestProtect: P8.2, a word that stays: it is read, the hazard is stored, it is read again; each thread, each slot, words of all kinds at the edges of the memory.
func TestProtect(t *testing.T) {
	g := arena(t, 2, 3)
	words := []uint64{0, 1, ref(5, 0), ref(5, 7), ref(5, 7) | mark, ref(0, 9), ref(0, 0) | mark, ref(g.Nodes(), math.MaxUint32), ref(1<<24-1, 1), math.MaxUint64}
	for self := range 3 {
		for slot := range 2 {
			for _, at := range []int{0, g.Pool(), g.Head(1, 2), g.Next(4), g.Words() - 1} {
				for _, w := range words {
					m := unlike(t, g)
					put(m, at, w)
					want := m.Copy()
					hazard := g.Hazard(self, slot)
					put(want, hazard, w&0xffffff)
					p := watched(m, self)
					r := word.Ref{Idx: idxOf(w), Mark: w&mark != 0, Ver: verOf(w)}
					if got := pool.Protect(p, g, slot, at); got != r {
						t.Fatalf("Protect of %#x = %v", w, got)
					}
					p.had(t, "Protect", load(at), store(hazard, w&0xffffff), load(at))
					same(t, "Protect", m, want, g)
				}
			}
		}
	}
}

// TestProtectMeets: P8.2, a word that changes between the readings: again from the hazard on, with what was read; another Ver, or a Mark, makes it another word.
func TestProtectMeets(t *testing.T) {
	g := arena(t, 1, 2)
	at := g.Head(0, 0)
	for _, row := range [][]uint64{
		{ref(3, 0), ref(4, 0)},
		{ref(3, 0), ref(3, 1)},
		{ref(3, 0), ref(3, 0) | mark},
		{ref(3, 2), ref(3, 1), ref(3, 2)},
		{ref(3, 0), ref(0, 0)},
		{ref(0, 0), ref(3, 0)},
		{ref(0, 0), ref(0, 1)},
		{ref(3, 0), ref(4, 0), ref(3, 0), ref(4, 0), ref(5, 9) | mark},
		{ref(3, 0), ref(3, 0) | 1<<25, ref(3, 0)},
	} {
		m := ready(t, g)
		p := watched(m, 1)
		p.meanwhile = func(n int) {
			if n%2 == 0 && n/2 < len(row) {
				put(m, at, row[n/2])
			}
		}
		want := []api.Access{load(at)}
		for _, w := range row {
			want = append(want, store(g.Hazard(1, 0), w&0xffffff), load(at))
		}
		last := row[len(row)-1]
		r := word.Ref{Idx: idxOf(last), Mark: last&mark != 0, Ver: verOf(last)}
		if got := pool.Protect(p, g, 0, at); got != r || m.Word(g.Hazard(1, 0)) != uint64(r.Idx) {
			t.Errorf("%x: Protect = %v, the hazard is %d", row, got, m.Word(g.Hazard(1, 0)))
		}
		p.had(t, "Protect", want...)
	}
}

// TestProtectBetween: P8.2, a word that changes, and is what it was when it is read again, is not another one.
func TestProtectBetween(t *testing.T) {
	g := arena(t, 1, 2)
	at := g.Head(1, 3)
	m := ready(t, g)
	put(m, at, ref(6, 6))
	p := watched(m, 0)
	p.meanwhile = func(n int) {
		switch n {
		case 1:
			put(m, at, ref(7, 7))
		case 2:
			put(m, at, ref(6, 6))
		}
	}
	if got := pool.Protect(p, g, 1, at); got != (word.Ref{Idx: 6, Ver: 6}) || m.Word(g.Hazard(0, 1)) != 6 {
		t.Errorf("Protect = %v, the hazard is %d", got, m.Word(g.Hazard(0, 1)))
	}
	p.had(t, "Protect", load(at), store(g.Hazard(0, 1), 6), load(at))
}

// TestProtectItself: P8.2, R1, the word is the thread's own hazard: the call ends, and the hazard is the number alone.
func TestProtectItself(t *testing.T) {
	g := arena(t, 1, 1)
	for _, w := range []uint64{0, 5, ref(5, 1), ref(5, 1) | mark, math.MaxUint64} {
		m := ready(t, g)
		at := g.Hazard(0, 1)
		put(m, at, w)
		if got := pool.Protect(port.New(m, 0), g, 1, at); got != (word.Ref{Idx: idxOf(w)}) || m.Word(at) != w&0xffffff {
			t.Errorf("%#x: Protect = %v, the hazard is %#x", w, got, m.Word(at))
		}
	}
}

// TestClear: P8.2, one store of 0, whatever the hazard was; the other hazards stay.
func TestClear(t *testing.T) {
	g := arena(t, 1, 3)
	for self := range 3 {
		for slot := range 2 {
			for _, w := range []uint64{0, 7, math.MaxUint64} {
				m := unlike(t, g)
				put(m, g.Hazard(self, slot), w)
				want := m.Copy()
				put(want, g.Hazard(self, slot), 0)
				p := watched(m, self)
				pool.Clear(p, g, slot)
				p.had(t, "Clear", store(g.Hazard(self, slot), 0))
				same(t, "Clear", m, want, g)
			}
		}
	}
}

// scanned asks whether a port has read hazards, or touched Pool.
func (w *watch) scanned(g geom.Geom) bool {
	return slices.ContainsFunc(w.seen, func(a api.Access) bool {
		return a.At == g.Pool() || a.At >= g.Hazard(0, 0) && a.At <= g.Hazard(g.Threads()-1, 1)
	})
}

// TestRetire: P8.3, nodes stand in the thread's list one behind the other; 2 T of them are not scanned, the next one has all given back, in their row.
func TestRetire(t *testing.T) {
	for _, threads := range []int{1, 2, 3, 64} {
		g := arena(t, 1, threads)
		for _, self := range []int{0, threads / 2, threads - 1} {
			m := ready(t, g)
			stack(m, g, 0)
			want := m.Copy()
			p := watched(m, self)
			var row, back []int
			for round := range 2 {
				for i := range 2*threads + 1 {
					node := (2*i+round)%(2*threads+1) + 3
					row = append(row, node)
					pool.Retire(p, g, node)
					if p.scanned(g) != (i == 2*threads) || p.told != 0 {
						t.Fatalf("%d threads: Retire %d scans: %v", threads, i, p.scanned(g))
					}
					p.seen = nil
					if i < 2*threads {
						retires(want, g, self, row...)
						same(t, "Retire", m, want, g)
					}
				}
				for _, node := range row {
					put(want, g.Next(node), ref(idxOf(want.Word(g.Pool())), 0))
					put(want, g.Pool(), ref(node, verOf(want.Word(g.Pool()))+1))
				}
				retires(want, g, self)
				same(t, "Retire of a full list", m, want, g)
				slices.Reverse(row)
				isFree(t, m, g, row...)
				back, row = row, nil
				acquires(t, p, g, back...)
				p.seen = nil
				put(want, g.Pool(), m.Word(g.Pool()))
			}
		}
	}
}

// TestRetireProtected: P8.3, P8.4, as many nodes stay as there are hazards, each of another thread; from then on each further node goes back at once, and the list never has more than 2 T + 1, at whatever access.
func TestRetireProtected(t *testing.T) {
	for _, threads := range []int{1, 2, 5} {
		g := arena(t, 2, threads)
		for self := range threads {
			m := ready(t, g)
			stack(m, g, 0)
			p := watched(m, self)
			most := uint64(0)
			p.meanwhile = func(int) { most = max(most, m.Word(g.Gone(self))) }
			var kept []int
			for thread := range threads {
				for slot := range 2 {
					node := 2*threads + 10 - 2*thread - slot
					put(m, g.Hazard(thread, slot), uint64(node))
					kept = append(kept, node)
				}
			}
			slices.Reverse(kept)
			for _, node := range kept {
				pool.Retire(p, g, node)
			}
			isGone(t, m, g, self, kept...)
			for node := 1; node < 5; node++ {
				pool.Retire(p, g, node)
				isGone(t, m, g, self, kept...)
				if got, _ := free(m, g); len(got) != node || got[0] != node {
					t.Fatalf("free are %v", got)
				}
			}
			if most != uint64(2*threads+1) {
				t.Fatalf("%d threads: the list had up to %d nodes", threads, most)
			}
			put(m, g.Hazard(threads-1, 1), 0)
			gone := 11
			pool.Retire(p, g, 6)
			kept = slices.DeleteFunc(kept, func(node int) bool { return node == gone })
			isGone(t, m, g, self, kept...)
			acquires(t, p, g, 6, gone, 4, 3, 2, 1, 0)
		}
	}
}

// TestScan: P8.3, lists and hazards by a short rule: all hazards are read, in their row; what none protects goes back, in its row, the rest stays in its own; no other word is touched.
func TestScan(t *testing.T) {
	c := chance(1)
	for n := range 600 {
		threads := 1 + n%4
		g := arena(t, 1, threads)
		m := ready(t, g)
		self := c.below(threads)
		nodes := make([]int, g.Nodes())
		for i := range nodes {
			j := c.below(i + 1)
			nodes[i], nodes[j] = nodes[j], i+1
		}
		listed, rest := nodes[:c.below(2*threads+2)], nodes[2*threads+1:]
		stack(m, g, uint32(n), rest...)
		retires(m, g, self, listed...)
		held := map[int]bool{}
		for thread := range threads {
			for slot := range 2 {
				if node := nodes[c.below(2*threads+3)]; c.below(3) > 0 {
					put(m, g.Hazard(thread, slot), uint64(node))
					held[node] = true
				}
			}
		}
		want := m.Copy()
		var stay []int
		for _, node := range listed {
			if held[node] {
				stay = append(stay, node)
				continue
			}
			put(want, g.Next(node), ref(idxOf(want.Word(g.Pool())), 0))
			put(want, g.Pool(), ref(node, verOf(want.Word(g.Pool()))+1))
		}
		retires(want, g, self, stay...)
		p := watched(m, self)
		pool.Scan(p, g)
		same(t, "Scan", m, want, g)
		var read, hazards []int
		for _, a := range p.seen {
			if a.At >= g.Hazard(0, 0) && a.At <= g.Hazard(threads-1, 1) {
				read = append(read, a.At)
			}
		}
		for i := range 2 * threads {
			hazards = append(hazards, g.Hazard(0, 0)+i)
		}
		if !slices.Equal(read, hazards) || p.told != 0 {
			t.Fatalf("the hazards %v are read, want %v", read, hazards)
		}
	}
}

// TestScanOthers: P8.3, a Scan is of the thread's list alone, and hazards protect nodes of other threads' lists, too.
func TestScanOthers(t *testing.T) {
	g := arena(t, 1, 3)
	m := ready(t, g)
	stack(m, g, 0)
	retires(m, g, 0, 1, 2, 3)
	retires(m, g, 1, 4, 5)
	retires(m, g, 2, 6, 7)
	put(m, g.Hazard(0, 0), 6)
	put(m, g.Hazard(1, 1), 2)
	put(m, g.Hazard(2, 0), 5)
	pool.Scan(port.New(m, 0), g)
	isFree(t, m, g, 3, 1)
	isGone(t, m, g, 0, 2)
	isGone(t, m, g, 1, 4, 5)
	pool.Scan(port.New(m, 2), g)
	isFree(t, m, g, 7, 3, 1)
	isGone(t, m, g, 2, 6)
	pool.Scan(port.New(m, 1), g)
	isFree(t, m, g, 4, 7, 3, 1)
	isGone(t, m, g, 1, 5)
	pool.Clear(port.New(m, 2), g, 0)
	pool.Clear(port.New(m, 1), g, 1)
	pool.Scan(port.New(m, 0), g)
	pool.Scan(port.New(m, 1), g)
	isFree(t, m, g, 5, 2, 4, 7, 3, 1)
	isGone(t, m, g, 0)
	isGone(t, m, g, 1)
	isGone(t, m, g, 2, 6)
}

// TestScanReads: P8.3, P8.4, a hazard counts as it is when it is read: one that is set ahead of that protects, one that is gone by then does not.
func TestScanReads(t *testing.T) {
	g := arena(t, 1, 2)
	for _, x := range []struct {
		was, is uint64
		stays   bool
	}{{0, 4, true}, {4, 0, false}, {4, 5, false}, {5, 4, true}} {
		for thread := range 2 {
			for slot := range 2 {
				for _, early := range []bool{false, true} {
					m := ready(t, g)
					stack(m, g, 0)
					retires(m, g, 0, 4)
					hazard := g.Hazard(thread, slot)
					put(m, hazard, x.was)
					w := &late{watch: watched(m, 0), at: hazard, early: early, does: func() { put(m, hazard, x.is) }}
					pool.Scan(w, g)
					stays := x.stays
					if !early {
						stays = x.was == 4
					}
					if stays {
						isGone(t, m, g, 0, 4)
						isFree(t, m, g)
					} else {
						isGone(t, m, g, 0)
						isFree(t, m, g, 4)
					}
				}
			}
		}
	}
}

// late is a port that does something ahead of the load of a word, or behind it.
type late struct {
	*watch
	at    int
	early bool
	does  func()
}

func (l *late) Load(at int) uint64 {
	if at == l.at && l.early {
		l.does()
	}
	w := l.watch.Load(at)
	if at == l.at && !l.early {
		l.does()
	}
	return w
}

// TestScanNothing: P8.3, an empty list: nothing is given back, and nothing changes.
func TestScanNothing(t *testing.T) {
	g := arena(t, 1, 2)
	m := ready(t, g)
	put(m, g.Hazard(1, 0), 3)
	want := m.Copy()
	pool.Scan(port.New(m, 1), g)
	same(t, "Scan", m, want, g)
}

// TestFullList: P8.3, P8.4, a list that is full when a node is retired, as that of a thread that was ended ahead of its Scan: the node stands behind the others in what is scanned, and the list never has more.
func TestFullList(t *testing.T) {
	g := arena(t, 1, 1)
	for _, x := range []struct {
		hazards    [2]uint64
		stay, free []int
	}{
		{[2]uint64{}, nil, []int{7, 6, 5, 4}},
		{[2]uint64{5, 0}, []int{5}, []int{7, 6, 4}},
		{[2]uint64{7, 4}, []int{4, 7}, []int{6, 5}},
		{[2]uint64{6, 7}, []int{6, 7}, []int{5, 4}},
	} {
		m := ready(t, g)
		stack(m, g, 0)
		retires(m, g, 0, 4, 5, 6)
		put(m, g.Hazard(0, 0), x.hazards[0])
		put(m, g.Hazard(0, 1), x.hazards[1])
		p := watched(m, 0)
		p.meanwhile = func(int) {
			if m.Word(g.Gone(0)) > 3 {
				t.Fatalf("the list has %d nodes", m.Word(g.Gone(0)))
			}
		}
		pool.Retire(p, g, 7)
		isGone(t, m, g, 0, x.stay...)
		isFree(t, m, g, x.free...)
	}
}

// TestRetiredTwice: P8.4, R1, a node that is protected, and retired over and over: the list never has more than 2 T + 1, and others go back all the same.
func TestRetiredTwice(t *testing.T) {
	g := arena(t, 1, 1)
	m := ready(t, g)
	stack(m, g, 0)
	put(m, g.Hazard(0, 0), 5)
	p := port.New(m, 0)
	for range 10 {
		pool.Retire(p, g, 5)
		if n := m.Word(g.Gone(0)); n > 3 {
			t.Fatalf("the list has %d nodes", n)
		}
	}
	pool.Retire(p, g, 8)
	isFree(t, m, g, 8)
	isGone(t, m, g, 0, 5, 5, 5)
}

// TestModel: P8.1 to P8.4, calls of all kinds, one behind the other, by threads in turns, held to a model of the words after each.
func TestModel(t *testing.T) {
	for seed := range 60 {
		c := chance(seed)
		g := arena(t, 1+seed%2, 1+seed%5)
		o := &model{m: ready(t, g), g: g}
		cells := []int{g.Head(0, 0), g.Head(0, 1), g.Head(0, 2)}
		for _, at := range cells {
			put(o.m, at, 0)
		}
		m := o.m.Copy()
		var hands []int
		for range 500 {
			self := c.below(g.Threads())
			p := port.New(m, self)
			what := c.below(8)
			if what > 5 && len(hands) > g.Nodes()/2 {
				what = 1 + c.below(2)
			}
			slot, at := c.below(2), cells[c.below(3)]
			switch {
			case what == 0:
				pool.Scan(p, g)
				o.scan(self)
			case what <= 2 && len(hands) > 0:
				i := c.below(len(hands))
				node := hands[i]
				hands = slices.Delete(hands, i, i+1)
				if what == 1 {
					pool.Give(p, g, node)
					o.give(node)
				} else {
					pool.Retire(p, g, node)
					o.retire(self, node)
				}
			case what == 3:
				w := ref(c.below(g.Nodes()+1), uint32(c.below(9)))
				put(m, at, w)
				put(o.m, at, w)
			case what == 4:
				if got := pool.Protect(p, g, slot, at); got.Word() != o.m.Word(at) {
					t.Fatalf("Protect = %v", got)
				}
				put(o.m, g.Hazard(self, slot), uint64(idxOf(o.m.Word(at))))
			case what == 5:
				pool.Clear(p, g, slot)
				put(o.m, g.Hazard(self, slot), 0)
			default:
				node := pool.Acquire(p, g)
				if node != o.acquire() || slices.Contains(hands, node) {
					t.Fatalf("Acquire = %d, in hands are %v", node, hands)
				}
				if node != 0 {
					hands = append(hands, node)
				}
			}
			same(t, "a call", m, o.m, g)
		}
		all, ok := free(m, g)
		all = append(all, hands...)
		for self := range g.Threads() {
			all = append(all, gone(m, g, self)...)
		}
		slices.Sort(all)
		if len(all) != g.Nodes() || len(slices.Compact(all)) != g.Nodes() || !ok {
			t.Fatalf("of %d nodes there are %v", g.Nodes(), all)
		}
	}
}

// model is what the words are to be, by the chapter.
type model struct {
	m *mem.Memory
	g geom.Geom
}

func (o *model) acquire() int {
	top := o.m.Word(o.g.Pool())
	if idxOf(top) != 0 {
		put(o.m, o.g.Pool(), ref(idxOf(o.m.Word(o.g.Next(idxOf(top)))), verOf(top)+1))
	}
	return idxOf(top)
}

func (o *model) give(node int) {
	top := o.m.Word(o.g.Pool())
	put(o.m, o.g.Next(node), ref(idxOf(top), 0))
	put(o.m, o.g.Pool(), ref(node, verOf(top)+1))
}

func (o *model) retire(self, node int) {
	retires(o.m, o.g, self, append(gone(o.m, o.g, self), node)...)
	if o.m.Word(o.g.Gone(self)) >= uint64(2*o.g.Threads()+1) {
		o.scan(self)
	}
}

func (o *model) scan(self int) {
	var stay []int
	for _, node := range gone(o.m, o.g, self) {
		held := false
		for i := range 2 * o.g.Threads() {
			held = held || o.m.Word(o.g.Hazard(i/2, i%2)) == uint64(node)
		}
		if held {
			stay = append(stay, node)
		} else {
			o.give(node)
		}
	}
	retires(o.m, o.g, self, stay...)
}

// every does each of the calls, with numbers that there are.
func every(p api.Port, g geom.Geom) {
	pool.Init(p, g)
	pool.Acquire(p, g)
	pool.Give(p, g, 1)
	pool.Protect(p, g, 0, 0)
	pool.Clear(p, g, 1)
	for range 5 {
		pool.Retire(p, g, 2)
	}
	pool.Scan(p, g)
}

// TestNone: P8.1 to P8.3, R1, no port, no pages, a node, a slot or a word that is none: nothing is done, by no access, and 0 is told.
func TestNone(t *testing.T) {
	g := arena(t, 1, 2)
	every(nil, g)
	every(nil, geom.Geom{})
	if pool.Acquire(nil, g) != 0 || pool.Protect(nil, g, 0, 0) != (word.Ref{}) {
		t.Error("no port: something is told")
	}
	m := unlike(t, g)
	for self := range 2 {
		retires(m, g, self, 1, 2, 3)
	}
	want := m.Copy()
	none := func(what string, does func(p api.Port)) {
		t.Helper()
		for _, self := range []int{0, 1} {
			p := watched(m, self)
			does(p)
			p.had(t, what)
			same(t, what, m, want, g)
		}
	}
	none("no pages", func(p api.Port) {
		every(p, geom.Geom{})
		if pool.Acquire(p, geom.Geom{}) != 0 || pool.Protect(p, geom.Geom{}, 0, 0) != (word.Ref{}) {
			t.Error("no pages: something is told")
		}
	})
	for _, node := range []int{0, -1, g.Nodes() + 1, 1 << 24, 1<<24 + 1, 1<<32 + 1, math.MinInt, math.MaxInt} {
		none("no node", func(p api.Port) {
			pool.Give(p, g, node)
			pool.Retire(p, g, node)
		})
	}
	for _, slot := range []int{-1, 2, 3, 1 << 32, math.MinInt, math.MaxInt} {
		none("no slot", func(p api.Port) {
			pool.Clear(p, g, slot)
			if pool.Protect(p, g, slot, 0) != (word.Ref{}) {
				t.Error("no slot: something is told")
			}
		})
	}
	for _, at := range []int{-1, g.Words(), g.Words() + 1, 1 << 32, math.MinInt, math.MaxInt} {
		none("no word", func(p api.Port) {
			if pool.Protect(p, g, 0, at) != (word.Ref{}) {
				t.Error("no word: something is told")
			}
		})
	}
}

// TestNoNodeOnTop: P8.1, R1, a Pool that names a node that is none: nothing is done, and 0 is told.
func TestNoNodeOnTop(t *testing.T) {
	g := arena(t, 1, 1)
	for _, idx := range []int{g.Nodes() + 1, 1 << 23, 1<<24 - 1} {
		m := ready(t, g)
		put(m, g.Pool(), ref(idx, 3))
		want := m.Copy()
		acquires(t, port.New(m, 0), g, 0, 0)
		same(t, "Acquire", m, want, g)
	}
}

// TestNoThread: P8.2, P8.3, R1, a thread that is none protects, clears, retires and scans nothing; the others of the calls ask for no thread.
func TestNoThread(t *testing.T) {
	g := arena(t, 1, 2)
	for _, self := range []int{-1, 2, 3, 63, 64, 1 << 32, math.MinInt, math.MaxInt} {
		m := unlike(t, g)
		want := m.Copy()
		p := watched(m, self)
		for slot := range 2 {
			pool.Clear(p, g, slot)
			if pool.Protect(p, g, slot, 0) != (word.Ref{}) {
				t.Errorf("thread %d: something is told", self)
			}
		}
		for node := range g.Nodes() {
			pool.Retire(p, g, node+1)
		}
		pool.Scan(p, g)
		p.had(t, "no thread")
		same(t, "no thread", m, want, g)
		pool.Init(p, g)
		acquires(t, p, g, 1, 2)
		pool.Give(p, g, 1)
		acquires(t, p, g, 1, 3)
	}
}

// TestNowhere: R1, ports that lead to no memory, or to one without those words: each call ends, and there is no node.
func TestNowhere(t *testing.T) {
	g := arena(t, 1, 2)
	var nothing *port.Direct
	every(nothing, g)
	if pool.Acquire(nothing, g) != 0 {
		t.Error("a nil port has a node")
	}
	for _, words := range []int{0, 1, g.Pool(), g.Pool() + 1, g.Gone(0), g.Words() - 1} {
		m, _ := mem.New(words, 0)
		every(port.New(m, 0), g)
		every(port.New(m, 1), g)
	}
	p := port.New(nil, 0)
	every(p, g)
	if pool.Acquire(p, g) != 0 {
		t.Error("a memory of nothing has a node")
	}
}

// TestGarbage: R1, P8.4, words that none has made ready: each call ends, and no list is longer than it may be behind a Scan.
func TestGarbage(t *testing.T) {
	g := arena(t, 1, 2)
	c := chance(9)
	fills := []func() uint64{
		func() uint64 { return math.MaxUint64 },
		func() uint64 { return 1 << 63 },
		func() uint64 { return uint64(g.Nodes() + 1) },
		func() uint64 { return uint64(c.below(9)) },
		func() uint64 { return uint64(c.below(40)) | uint64(c.below(3))<<32 },
		func() uint64 { return uint64(c.below(1<<31))<<33 + uint64(c.below(1<<31)) },
	}
	calls := []func(p api.Port){
		func(p api.Port) { pool.Acquire(p, g) },
		func(p api.Port) { pool.Give(p, g, 4) },
		func(p api.Port) { pool.Protect(p, g, 0, g.Pool()) },
		func(p api.Port) { pool.Clear(p, g, 0) },
		func(p api.Port) { pool.Retire(p, g, 4) },
		func(p api.Port) { pool.Scan(p, g) },
	}
	for i := range 1200 {
		m, _ := mem.New(g.Words(), 0)
		for at := range m.Words() {
			put(m, at, fills[i%len(fills)]())
		}
		p := port.New(m, i%2)
		for range 9 {
			calls[c.below(len(calls))](p)
		}
		pool.Scan(p, g)
		if n := m.Word(g.Gone(i % 2)); n > 5 {
			t.Fatalf("a list has %d nodes", n)
		}
	}
}

// TestNothingIsKept: R3, what is answered hangs on the memory alone.
func TestNothingIsKept(t *testing.T) {
	g := arena(t, 1, 2)
	a, b := ready(t, g), ready(t, g)
	p, q := port.New(a, 0), port.New(b, 0)
	acquires(t, p, g, 1, 2)
	acquires(t, q, g, 1)
	pool.Give(p, g, 1)
	acquires(t, q, g, 2)
	acquires(t, port.New(a.Copy(), 1), g, 1)
	acquires(t, p, g, 1)
}
