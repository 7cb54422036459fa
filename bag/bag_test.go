package bag_test

import (
	"math"
	"slices"
	"testing"

	"quillet/api"
	"quillet/bag"
	"quillet/geom"
	"quillet/mem"
	"quillet/pool"
	"quillet/port"
)

// The tests name the promises of shared/doc/09-bag.md that they hold the package to. Those of threads whose accesses stand in any row are in rows_test.go.

// ref is the word of a Ref without Mark and Ver, packed as chapter 1 says; idxOf is the node that such a word names.
func ref(idx int) uint64 { return uint64(idx) }
func idxOf(w uint64) int { return int(w & 0xffffff) }

// mark is a Ref's Mark.
const mark = 1 << 24

// arena is the geometry of an arena that there can be.
func arena(t *testing.T, pages, threads int) geom.Geom {
	t.Helper()
	g, ok := geom.New(pages, threads)
	if !ok {
		t.Fatalf("geom.New(%d, %d): false", pages, threads)
	}
	return g
}

// put lays a word of a memory.
func put(m *mem.Memory, at int, w uint64) {
	m.Do(api.Access{Kind: api.Store, At: at, A: w})
}

// unlike is a memory of the arena's words and bytes, no two of which are the same, and no word of which is 0.
func unlike(t *testing.T, g geom.Geom) *mem.Memory {
	t.Helper()
	m, e := mem.New(g.Words(), g.Pages()*api.Page)
	if e != api.OK {
		t.Fatalf("mem.New: %d", e)
	}
	for at := range m.Words() {
		put(m, at, uint64(at)*0x9e3779b97f4a7c15+0x1234567)
	}
	for at := range m.Bytes() {
		m.Do(api.Access{Kind: api.Put, At: at, A: uint64(at)*7 + 1})
	}
	return m
}

// ready is an unlike memory with empty lists, no hazards, no retired nodes, and all nodes free, 1 topmost, laid by hand.
func ready(t *testing.T, g geom.Geom) *mem.Memory {
	t.Helper()
	m := unlike(t, g)
	for self := range g.Threads() {
		put(m, g.Gone(self), 0)
		put(m, g.Hazard(self, 0), 0)
		put(m, g.Hazard(self, 1), 0)
		for class := range api.Classes {
			put(m, g.Head(self, class), 0)
		}
	}
	all := make([]int, g.Nodes())
	for i := range all {
		all[i] = i + 1
	}
	stack(m, g, all...)
	return m
}

// stack lays the stack of free nodes, the topmost one first.
func stack(m *mem.Memory, g geom.Geom, nodes ...int) {
	at := g.Pool()
	for _, node := range nodes {
		put(m, at, ref(node))
		at = g.Next(node)
	}
	put(m, at, 0)
}

// free are the nodes of the stack, the topmost one first; false, if they do not end, or one of them is none.
func free(m *mem.Memory, g geom.Geom) ([]int, bool) {
	var l []int
	for node := idxOf(m.Word(g.Pool())); node != 0; node = idxOf(m.Word(g.Next(node))) {
		if node > g.Nodes() || len(l) == g.Nodes() {
			return l, false
		}
		l = append(l, node)
	}
	return l, true
}

// gone is a thread's list of retired nodes.
func gone(m *mem.Memory, g geom.Geom, self int) []int {
	var l []int
	for i := range min(m.Word(g.Gone(self)), uint64(2*g.Threads()+2)) {
		l = append(l, int(m.Word(g.Retired(self, int(i)))))
	}
	return l
}

// retired lays a thread's list of retired nodes.
func retired(m *mem.Memory, g geom.Geom, self int, nodes ...int) {
	for i, node := range nodes {
		put(m, g.Retired(self, i), uint64(node))
	}
	put(m, g.Gone(self), uint64(len(nodes)))
}

// node is one of a list.
type node struct {
	idx   int
	items [8]uint64
}

// with is a node that has items in these places, each of them the first one's number more; full one that has all.
func with(idx int, first uint64, places ...int) node {
	n := node{idx: idx}
	for _, i := range places {
		n.items[i] = first + uint64(i)
	}
	return n
}

func full(idx int, first uint64) node { return with(idx, first, 0, 1, 2, 3, 4, 5, 6, 7) }

// lay lays a thread's list.
func lay(m *mem.Memory, g geom.Geom, thread, class int, nodes ...node) {
	at := g.Head(thread, class)
	for _, n := range nodes {
		put(m, at, ref(n.idx))
		at = g.Next(n.idx)
		for i, item := range n.items {
			put(m, g.Item(n.idx, i), item)
		}
	}
	put(m, at, 0)
}

// listed is a thread's list; false, if it does not end, or a Ref of it has what it ought not to have.
func listed(m *mem.Memory, g geom.Geom, thread, class int) ([]node, bool) {
	var l []node
	for at := g.Head(thread, class); m.Word(at) != 0; {
		n := node{idx: idxOf(m.Word(at))}
		if m.Word(at) != ref(n.idx) || n.idx < 1 || n.idx > g.Nodes() || len(l) == g.Nodes() {
			return l, false
		}
		for i := range n.items {
			n.items[i] = m.Word(g.Item(n.idx, i))
		}
		l = append(l, n)
		at = g.Next(n.idx)
	}
	return l, true
}

// isListed holds a memory to a thread's list.
func isListed(t *testing.T, m *mem.Memory, g geom.Geom, thread, class int, want ...node) {
	t.Helper()
	if got, ok := listed(m, g, thread, class); !ok || !slices.Equal(got, want) {
		t.Fatalf("the list of thread %d, class %d, is %v, want %v", thread, class, got, want)
	}
}

// items are those of a class's lists.
func items(m *mem.Memory, g geom.Geom, class int) []uint64 {
	var all []uint64
	for thread := range g.Threads() {
		l, _ := listed(m, g, thread, class)
		for _, n := range l {
			for _, item := range n.items {
				if item != 0 {
					all = append(all, item)
				}
			}
		}
	}
	return all
}

// same holds a memory to another one, word by word. The places behind a thread's list of retired nodes may be whatever they are.
func same(t *testing.T, what string, got, want *mem.Memory, g geom.Geom) {
	t.Helper()
	want = want.Copy()
	for self := range g.Threads() {
		for i := range 2*g.Threads() + 2 {
			if at := g.Retired(self, i); uint64(i) >= want.Word(g.Gone(self)) {
				put(want, at, got.Word(at))
			}
		}
	}
	if mem.Same(got, want) {
		return
	}
	for at := range got.Words() {
		if got.Word(at) != want.Word(at) {
			t.Fatalf("%s: word %d is %#x, want %#x", what, at, got.Word(at), want.Word(at))
		}
	}
	t.Fatalf("%s: a byte is touched", what)
}

// turn is a word that an access has made another one.
type turn struct {
	at int
	is uint64
}

// watch is a port that writes down its accesses, and what they have changed. Ahead of each of them it does what meanwhile says, which is told the access.
type watch struct {
	*port.Direct
	m         *mem.Memory
	seen      []api.Access
	turns     []turn
	told      int
	meanwhile func(a api.Access)
}

// note writes an access down, which is done by does.
func (w *watch) note(a api.Access, does func()) {
	if w.meanwhile != nil {
		w.meanwhile(a)
	}
	was := w.m.Word(a.At)
	w.seen = append(w.seen, a)
	does()
	if is := w.m.Word(a.At); is != was {
		w.turns = append(w.turns, turn{a.At, is})
	}
}

func (w *watch) Load(at int) (v uint64) {
	w.note(api.Access{Kind: api.Load, At: at}, func() { v = w.Direct.Load(at) })
	return v
}

func (w *watch) Store(at int, v uint64) {
	w.note(api.Access{Kind: api.Store, At: at, A: v}, func() { w.Direct.Store(at, v) })
}

func (w *watch) CAS(at int, old, new uint64) (done bool) {
	w.note(api.Access{Kind: api.CAS, At: at, A: old, B: new}, func() { done = w.Direct.CAS(at, old, new) })
	return done
}

func (w *watch) Add(at int, n uint64) (v uint64) {
	w.note(api.Access{Kind: api.Add, At: at, A: n}, func() { v = w.Direct.Add(at, n) })
	return v
}

func (w *watch) Get(at int) byte {
	w.note(api.Access{Kind: api.Get, At: -1}, func() {})
	return w.Direct.Get(at)
}

func (w *watch) Put(at int, b byte) {
	w.note(api.Access{Kind: api.Put, At: -1}, func() {})
	w.Direct.Put(at, b)
}

func (w *watch) Tell(r api.Result) {
	w.told++
	w.Direct.Tell(r)
}

// watched is a port of a thread to a memory that writes down.
func watched(m *mem.Memory, self int) *watch {
	return &watch{Direct: port.New(m, self), m: m}
}

// count is how often a port has done an access.
func (w *watch) count(a api.Access) int {
	n := 0
	for _, b := range w.seen {
		if a == b {
			n++
		}
	}
	return n
}

// countRow is how often it has done these accesses, one behind the other.
func (w *watch) countRow(row []api.Access) int {
	n := 0
	for i := range w.seen {
		if rest := w.seen[i:]; len(rest) >= len(row) && slices.Equal(rest[:len(row)], row) {
			n++
		}
	}
	return n
}

func load(at int) api.Access { return api.Access{Kind: api.Load, At: at} }
func store(at int, v uint64) api.Access {
	return api.Access{Kind: api.Store, At: at, A: v}
}
func cas(at int, old, new uint64) api.Access {
	return api.Access{Kind: api.CAS, At: at, A: old, B: new}
}

// takes holds Takes one behind the other to the items that they tell, 0 for none.
func takes(t *testing.T, p api.Port, g geom.Geom, class int, want ...uint64) {
	t.Helper()
	for i, item := range want {
		if got, ok := bag.Take(p, g, class); got != item || ok != (item != 0) {
			t.Fatalf("Take %d of class %d = %d, %v, want %d", i, class, got, ok, item)
		}
	}
}

// adds holds Adds one behind the other to being done.
func adds(t *testing.T, p api.Port, g geom.Geom, class int, items ...uint64) {
	t.Helper()
	for _, item := range items {
		if !bag.Add(p, g, class, item) {
			t.Fatalf("Add(%d, %d): false", class, item)
		}
	}
}

// chance is a row of numbers by a short rule.
type chance uint64

func (c *chance) below(n int) int {
	*c = *c*6364136223846793005 + 1442695040888963407
	return int(uint64(*c) >> 33 % uint64(n))
}

// TestExamples: P9.1, P9.2, the chapter's examples.
func TestExamples(t *testing.T) {
	g := arena(t, 1, 1)
	m, _ := mem.New(g.Words(), 64)
	p := port.New(m, 0)
	pool.Init(p, g)
	adds(t, p, g, 0, 5, 6)
	takes(t, p, g, 0, 5)
	adds(t, p, g, 0, 7)
	takes(t, p, g, 0, 7, 6, 0)
	adds(t, p, g, 1, 1, 2, 3, 4, 5, 6, 7, 8, 9)
	takes(t, p, g, 1, 9)
	takes(t, p, g, 0, 0)
	if bag.Add(p, g, 0, 0) || bag.Add(p, g, 4, 5) {
		t.Error("an item of 0, or one of no class, is put")
	}
}

// TestAddPlace: P9.1, the first place without an item, wherever it is, and whichever behind it have none, gets the item; then Adds is one more; no other word changes, those of other threads and classes among them.
func TestAddPlace(t *testing.T) {
	g := arena(t, 1, 3)
	behind := []func(i int) bool{
		func(int) bool { return true },
		func(int) bool { return false },
		func(i int) bool { return i%2 == 0 },
		func(i int) bool { return i%8 == 0 },
	}
	for at := range 24 {
		for self := range 3 {
			for class := range api.Classes {
				m := ready(t, g)
				l := []node{full(9, 100), full(4, 200), full(17, 300)}
				for i := range 24 {
					if i == at || i > at && !behind[(self+class)%4](i) {
						l[i/8].items[i%8] = 0
					}
				}
				lay(m, g, self, class, l...)
				lay(m, g, (self+1)%3, class, node{idx: 20})
				lay(m, g, self, (class+1)%4, node{idx: 21})
				want := m.Copy()
				place := g.Item(l[at/8].idx, at%8)
				item := uint64(at)<<60 | 1
				count := turn{g.Adds(class), m.Word(g.Adds(class)) + 1}
				put(want, place, item)
				put(want, count.at, count.is)
				p := watched(m, self)
				if !bag.Add(p, g, class, item) || p.told != 0 {
					t.Fatalf("place %d: Add is not done, or tells what only a call tells", at)
				}
				same(t, "Add", m, want, g)
				if turns := []turn{{place, item}, count}; !slices.Equal(p.turns, turns) {
					t.Fatalf("place %d: Add changes %v, want %v", at, p.turns, turns)
				}
			}
		}
	}
}

// TestAddFurther: P9.1, all places have an item: the item is the first one of the pool's topmost node, which becomes the list's first one, when it is as it is to be; its other items are 0, whatever they were; then Adds is one more; no other word changes.
func TestAddFurther(t *testing.T) {
	g := arena(t, 2, 2)
	for self := range 2 {
		for class := range api.Classes {
			for nodes := range 4 {
				m := ready(t, g)
				l := []node{full(9, 100), full(4, 200), full(17, 300)}[:nodes]
				lay(m, g, self, class, l...)
				lay(m, g, 1-self, class, node{idx: 20})
				lay(m, g, self, (class+1)%4, node{idx: 21})
				stack(m, g, 12, 3)
				old := m.Word(g.Head(self, class))
				want := m.Copy()
				lay(want, g, self, class, append([]node{{12, [8]uint64{77}}}, l...)...)
				put(want, g.Adds(class), m.Word(g.Adds(class))+1)
				put(want, g.Pool(), 1<<32|3)
				p := watched(m, self)
				p.meanwhile = func(api.Access) {
					if m.Word(g.Head(self, class)) == old {
						return
					}
					isListed(t, m, g, self, class, append([]node{{12, [8]uint64{77}}}, l...)...)
				}
				if !bag.Add(p, g, class, 77) {
					t.Fatalf("%d nodes: Add is not done", nodes)
				}
				same(t, "Add", m, want, g)
				last := p.turns[len(p.turns)-2:]
				if last[0].at != g.Head(self, class) || last[1].at != g.Adds(class) {
					t.Fatalf("%d nodes: Add changes %v", nodes, p.turns)
				}
			}
		}
	}
}

// TestAddMany: P9.1, P9.4, Adds one behind the other, up to the pool's last node and beyond: a further node ahead of the others for each eight items; then none is put, nor counted, till there is a place.
func TestAddMany(t *testing.T) {
	for _, class := range []int{0, 3} {
		g := arena(t, 1, 1)
		m := ready(t, g)
		put(m, g.Adds(class), 0)
		p := port.New(m, 0)
		var l []node
		for n := range 8 * g.Nodes() {
			if n%8 == 0 {
				l = append([]node{{idx: n/8 + 1}}, l...)
			}
			l[0].items[n%8] = uint64(n) + 1000
			adds(t, p, g, class, uint64(n)+1000)
			isListed(t, m, g, 0, class, l...)
			if got := m.Word(g.Adds(class)); got != uint64(n)+1 {
				t.Fatalf("%d items are put, and Adds is %d", n+1, got)
			}
		}
		want := m.Copy()
		for _, other := range []int{class, 1, 2} {
			if bag.Add(p, g, other, 5) {
				t.Fatalf("class %d: an item is put without a node", other)
			}
			same(t, "Add without a node", m, want, g)
		}
		takes(t, p, g, class, l[0].items[0])
		adds(t, p, g, class, 5)
		put(want, g.Item(l[0].idx, 0), 5)
		put(want, g.Adds(class), uint64(8*g.Nodes())+1)
		same(t, "Add into a place that was taken from", m, want, g)
	}
}

// TestAddNothing: P9.1, an item of 0 is not put, by no access, whether there is a place or a node or not.
func TestAddNothing(t *testing.T) {
	g := arena(t, 1, 2)
	for _, l := range [][]node{nil, {full(3, 50)}, {with(3, 50, 1, 2)}} {
		for class := range api.Classes {
			m := ready(t, g)
			lay(m, g, 1, class, l...)
			stack(m, g, 7)
			want := m.Copy()
			p := watched(m, 1)
			if bag.Add(p, g, class, 0) || len(p.seen) != 0 || p.told != 0 {
				t.Fatalf("an item of 0 is put, by %v", p.seen)
			}
			same(t, "Add of 0", m, want, g)
		}
	}
}

// TestAddsWraps: P9.1, P9.2, Adds is one more of what is the greatest word; a Take finds what was put.
func TestAddsWraps(t *testing.T) {
	g := arena(t, 1, 1)
	m := ready(t, g)
	for class := range api.Classes {
		put(m, g.Adds(class), math.MaxUint64)
		adds(t, port.New(m, 0), g, class, math.MaxUint64, 1<<63)
		if m.Word(g.Adds(class)) != 1 {
			t.Errorf("Adds is %#x", m.Word(g.Adds(class)))
		}
		takes(t, port.New(m, 0), g, class, math.MaxUint64, 1<<63, 0)
	}
}

// TestTakeRow: P9.2, the own list first, then the others by number, round; of each the first item; each Take changes that place alone, and ends with hazards of 0, whatever they were.
func TestTakeRow(t *testing.T) {
	for threads := 1; threads <= 5; threads++ {
		g := arena(t, 1, threads)
		for self := range threads {
			for class := range api.Classes {
				m := ready(t, g)
				type place struct {
					at   int
					item uint64
				}
				var row []place
				for i := range threads {
					thread := (self + i) % threads
					l := []node{with(4*thread+2, uint64(100*thread+10), 1, 6), {idx: 4*thread + 3}, with(4*thread+1, uint64(100*thread+20), 0, 7)}
					lay(m, g, thread, class, l...)
					lay(m, g, thread, (class+1)%4, full(4*thread+4, 7000))
					for _, n := range l {
						for j, item := range n.items {
							if item != 0 {
								row = append(row, place{g.Item(n.idx, j), item})
							}
						}
					}
				}
				want := m.Copy()
				p := watched(m, self)
				for _, x := range row {
					put(m, g.Hazard(self, 0), 9)
					put(m, g.Hazard(self, 1), 9)
					takes(t, p, g, class, x.item)
					put(want, x.at, 0)
					same(t, "Take", m, want, g)
				}
				for range 2 {
					put(m, g.Hazard(self, 0), 9)
					put(m, g.Hazard(self, 1), 9)
					takes(t, p, g, class, 0)
					same(t, "Take of nothing", m, want, g)
				}
				if p.told != 0 {
					t.Fatal("Take tells what only a call tells")
				}
			}
		}
	}
}

// protects are the accesses by which a node is protected that the word at that number names.
func protects(g geom.Geom, self, slot, at, idx int) []api.Access {
	return []api.Access{load(at), store(g.Hazard(self, slot), uint64(idx)), load(at)}
}

// TestTakeAccesses: P9.2, each node is protected ahead of its items being read, by the two hazards in turn, from the first one on; Adds is read at both ends; both hazards are cleared. Nothing else is accessed.
func TestTakeAccesses(t *testing.T) {
	g := arena(t, 1, 2)
	const class = 2
	for self := range 2 {
		for last := range 4 { // the node that has the item: of the own list the first three ones, or none
			m := ready(t, g)
			l := []node{{idx: 6}, {idx: 2}, {idx: 9}}
			want := []api.Access{load(g.Adds(class))}
			if last < 3 {
				l[last].items[5] = 70
			}
			lay(m, g, self, class, l...)
			lay(m, g, 1-self, class, node{idx: 3})
			walk := func(at, slot, idx, places int) {
				want = append(want, protects(g, self, slot, at, idx)...)
				for i := range places {
					want = append(want, load(g.Item(idx, i)))
				}
			}
			at := g.Head(self, class)
			for i, n := range l {
				if i == last {
					walk(at, i%2, n.idx, 6)
					want = append(want, cas(g.Item(n.idx, 5), 70, 0))
					break
				}
				walk(at, i%2, n.idx, 8)
				at = g.Next(n.idx)
			}
			if last == 3 {
				walk(at, 1, 0, 0)
				walk(g.Head(1-self, class), 0, 3, 8)
				walk(g.Next(3), 1, 0, 0)
				want = append(want, load(g.Adds(class)))
			}
			p := watched(m, self)
			bag.Take(p, g, class)
			n := len(p.seen) - 2
			clear := []api.Access{store(g.Hazard(self, 0), 0), store(g.Hazard(self, 1), 0)}
			if !slices.Equal(p.seen[:n], want) || !slices.Contains(p.seen[n:], clear[0]) || !slices.Contains(p.seen[n:], clear[1]) {
				t.Fatalf("node %d has the item: Take has the accesses %v, want %v, %v", last, p.seen, want, clear)
			}
		}
	}
}

// TestTakeMeets: P9.2, an item that another thread takes ahead of the CAS is left to it, and the next one is told: of the same node, of a further one, of another list.
func TestTakeMeets(t *testing.T) {
	g := arena(t, 1, 3)
	for _, x := range []struct {
		own, other []node
		want       uint64
	}{
		{[]node{with(5, 10, 2, 4)}, nil, 14},
		{[]node{with(5, 10, 7), with(6, 20, 3)}, nil, 23},
		{[]node{with(5, 10, 0)}, []node{{idx: 6}, with(7, 30, 7)}, 37},
		{[]node{with(5, 10, 0)}, nil, 0},
	} {
		m := ready(t, g)
		lay(m, g, 1, 0, x.own...)
		lay(m, g, 2, 0, x.other...)
		first := slices.IndexFunc(x.own[0].items[:], func(item uint64) bool { return item != 0 })
		item := x.own[0].items[first]
		p, q := watched(m, 1), port.New(m, 0)
		p.meanwhile = func(a api.Access) {
			if a == cas(g.Item(5, first), item, 0) {
				takes(t, q, g, 0, item) // behind its own list, which is empty, thread 1's comes first
			}
		}
		takes(t, p, g, 0, x.want)
		if p.count(cas(g.Item(5, first), item, 0)) != 1 {
			t.Fatalf("the first item was not met")
		}
	}
}

// turning is a port by which a word is read as these, one behind the other, and then as it is.
type turning struct {
	*watch
	at    int
	words []uint64
}

func (x *turning) Load(at int) uint64 {
	v := x.watch.Load(at)
	if at == x.at && len(x.words) > 0 {
		v, x.words = x.words[0], x.words[1:]
	}
	return v
}

// TestTakeAnew: P9.2, the Next of a node is found with the Mark: the list is begun anew, from its Head on, by the first hazard, as often as that is; what the marked Ref names is not gone to. A Mark that is gone when the Next is read again is none.
func TestTakeAnew(t *testing.T) {
	g := arena(t, 1, 2)
	const class = 1
	other := ref(6) | mark // 6 is a node of another class
	for _, x := range []struct {
		words []uint64
		anew  int
	}{
		{nil, 0},
		{[]uint64{ref(5)}, 0},
		{[]uint64{other}, 0},
		{[]uint64{other, other}, 1},
		{[]uint64{ref(5) | mark, ref(5) | mark}, 1},
		{[]uint64{mark, mark}, 1},
		{[]uint64{1<<32 | mark, 1<<32 | mark}, 1},
		{[]uint64{ref(5), other, other}, 1},
		{[]uint64{other, mark, mark}, 1},
		{[]uint64{other, other, other}, 1},
		{[]uint64{other, other, other, other}, 2},
		{slices.Repeat([]uint64{other}, 40), 20},
		{slices.Repeat([]uint64{other}, 600), 300},
	} {
		for first := range 2 { // how many nodes are ahead of the one whose Next turns
			for thread := range 2 {
				m := ready(t, g)
				lay(m, g, thread, class, append([]node{{idx: 3}}[:first], node{idx: 4}, full(5, 500))...)
				lay(m, g, 0, class+1, full(6, 600))
				want := m.Copy()
				put(want, g.Item(5, 0), 0)
				p := &turning{watched(m, thread), g.Next(4), slices.Clone(x.words)}
				takes(t, p, g, class, 500)
				same(t, "Take", m, want, g)
				head := g.Head(thread, class)
				if got := p.count(load(head)); got != 2*x.anew+2 {
					t.Fatalf("%x: the Head is read %d times", x.words, got)
				}
				if p.count(load(g.Item(6, 0))) != 0 {
					t.Fatalf("%x: a node of another class is read", x.words)
				}
				begins := protects(g, thread, 0, head, []int{4, 3}[first])
				if got := p.countRow(begins); got != x.anew+1 {
					t.Fatalf("%x: the list is begun %d times", x.words, got)
				}
			}
		}
	}
}

// TestTakeAnewForLong: P9.2, P9.4, R1, the list's thread unlinks the node at which a Take stands, and links another one ahead of the others, over and over: what was put ahead of the Take, and stays, is told at the end.
func TestTakeAnewForLong(t *testing.T) {
	g := arena(t, 1, 2)
	for _, times := range []int{1, 30, 1000, 1100, 3500} {
		m := ready(t, g)
		lay(m, g, 0, 0, node{idx: 29}, full(30, 500))
		stack(m, g, 1, 2, 3, 4, 5, 6, 7, 8)
		p, q := watched(m, 1), port.New(m, 0)
		left := times
		p.meanwhile = func(a api.Access) {
			if left == 0 || a != load(g.Next(idxOf(m.Word(g.Head(0, 0))))) {
				return
			}
			left--
			bag.Prune(q, g, 0)
			adds(t, q, g, 0, 700)
			takes(t, q, g, 0, 700)
		}
		takes(t, p, g, 0, 500)
		if left != 0 {
			t.Fatalf("of %d times %d are left", times, left)
		}
	}
}

// both is one list behind another one.
func both(a, b []uint64) []uint64 { return append(slices.Clone(a), b...) }

// sameItems asks whether two lists have the same items, in whatever row.
func sameItems(a, b []uint64) bool {
	return slices.Equal(slices.Sorted(slices.Values(a)), slices.Sorted(slices.Values(b)))
}

// TestTakeMeetsPrune: P9.2, P9.4, the list's thread unlinks nodes, and makes use of them again, ahead of each access of a Take: that tells an item of its class, and misses none.
func TestTakeMeetsPrune(t *testing.T) {
	g := arena(t, 1, 2)
	there := []uint64{500, 501, 502, 503, 504, 505, 506, 507}
	for _, x := range []struct {
		name string
		does func(q api.Port) (puts, got []uint64)
		want []uint64 // what the Take may tell
	}{
		{"Prune", func(q api.Port) (puts, got []uint64) {
			bag.Prune(q, g, 0)
			return nil, nil
		}, there[:1]},
		{"Prune, and the nodes are of another class", func(q api.Port) (puts, got []uint64) {
			bag.Prune(q, g, 0)
			for item := uint64(900); item < 916; item++ {
				bag.Add(q, g, 1, item)
			}
			return nil, nil
		}, there[:1]},
		{"Prune, and a node is the first one again", func(q api.Port) (puts, got []uint64) {
			bag.Prune(q, g, 0)
			if bag.Add(q, g, 0, 700) {
				puts = []uint64{700}
			}
			return puts, nil
		}, []uint64{500, 700}},
		{"Prune, and a node is the first one again, then of another class", func(q api.Port) (puts, got []uint64) {
			for range 4 {
				bag.Prune(q, g, 0)
				if bag.Add(q, g, 0, 700) {
					puts = append(puts, 700)
				}
				if item, ok := bag.Take(q, g, 0); ok {
					got = append(got, item)
				}
			}
			bag.Prune(q, g, 0)
			bag.Add(q, g, 1, 900)
			return puts, got
		}, append([]uint64{700}, there...)},
	} {
		for ahead := range 80 {
			m := ready(t, g)
			stack(m, g)
			lay(m, g, 0, 0, node{idx: 3}, node{idx: 4}, full(5, 500))
			retired(m, g, 0, 21, 22, 23) // with two more they are scanned
			p, q := watched(m, 1), port.New(m, 0)
			var puts, got []uint64
			p.meanwhile = func(api.Access) {
				if len(p.seen) == ahead {
					puts, got = x.does(q)
				}
			}
			item, ok := bag.Take(p, g, 0)
			if !ok || !slices.Contains(x.want, item) {
				t.Fatalf("%s, ahead of access %d: Take = %d, %v", x.name, ahead, item, ok)
			}
			if left := items(m, g, 0); !sameItems(both(there, puts), both(append(got, item), left)) {
				t.Fatalf("%s, ahead of access %d: %v is told, %d is told, left are %v", x.name, ahead, got, item, left)
			}
		}
	}
}

// TestTakeAgain: P9.2, P9.4, another thread adds an item ahead of each access of a Take that would find nothing: it is told, unless Adds was read the second time ahead of that; one of another class makes no difference.
func TestTakeAgain(t *testing.T) {
	g := arena(t, 1, 3)
	again := 0
	for self := range 3 {
		for adder := range 3 {
			for _, other := range []int{2, 0} {
				for ahead := range 50 {
					m := ready(t, g)
					for thread := range 3 {
						lay(m, g, thread, 2, node{idx: 10 + thread})
					}
					p := watched(m, self)
					read := 2
					p.meanwhile = func(api.Access) {
						if len(p.seen) == ahead {
							read = p.count(load(g.Adds(2)))
							adds(t, port.New(m, adder), g, other, 77)
						}
					}
					item, ok := bag.Take(p, g, 2)
					if found := other == 2 && read < 2; ok != found || found && item != 77 {
						t.Fatalf("thread %d adds ahead of access %d: Take = %d, %v", adder, ahead, item, ok)
					}
					n := p.count(load(g.Adds(2)))
					if other != 2 && n != 2 {
						t.Fatalf("thread %d adds to another class: Adds is read %d times", adder, n)
					}
					if ok && n == 3 {
						again++
					}
				}
			}
		}
	}
	if again < 50 {
		t.Fatalf("all was done again %d times", again)
	}
}

// TestTakeAgainAndAgain: P9.2, items are added, and taken by others, ahead of Adds being read the second time, many times: all is done again each time; then nothing is told.
func TestTakeAgainAndAgain(t *testing.T) {
	g := arena(t, 1, 2)
	for _, times := range []int{0, 1, 2, 3, 50, 3000} {
		m := ready(t, g)
		p, q := watched(m, 0), port.New(m, 1)
		reads, left := 0, times
		p.meanwhile = func(a api.Access) {
			if a != load(g.Adds(3)) {
				return
			}
			reads++
			if reads%2 == 0 && left > 0 {
				left--
				adds(t, q, g, 3, 5)
				takes(t, q, g, 3, 5)
			}
		}
		takes(t, p, g, 3, 0)
		if reads != 2*times+2 {
			t.Fatalf("%d times: Adds is read %d times", times, reads)
		}
	}
}

// pruned is what Prune is to change of a list, access by access, and what it is to leave, in a memory in which it scans nothing.
func pruned(m *mem.Memory, g geom.Geom, self, class int, l []node) (turns []turn, left []node) {
	at := g.Head(self, class)
	gone := m.Word(g.Gone(self))
	for i, n := range l {
		if n.items != [8]uint64{} {
			left = append(left, n)
			at = g.Next(n.idx)
			continue
		}
		next := uint64(0)
		if i+1 < len(l) {
			next = ref(l[i+1].idx)
		}
		turns = append(turns, turn{at, next}, turn{g.Next(n.idx), next | mark})
		turns = append(turns, turn{g.Retired(self, int(gone)), uint64(n.idx)}, turn{g.Gone(self), gone + 1})
		gone++
	}
	return turns, left
}

// TestPrune: P9.3, each row of nodes with and without items: of those without, from the first one on, each is unlinked, then gets the Mark, then is retired; the others stay, in their row; nothing else changes.
func TestPrune(t *testing.T) {
	g := arena(t, 1, 3)
	for nodes := range 6 {
		for which := range 1 << nodes {
			for self := range 3 {
				class := (which + self) % 4
				m := ready(t, g)
				var l []node
				for i, idx := range []int{8, 3, 20, 5, 11}[:nodes] {
					n := node{idx: idx}
					if which>>i&1 == 1 {
						n = with(idx, uint64(100*i+10), (i+which)%8)
					}
					l = append(l, n)
				}
				lay(m, g, self, class, l...)
				lay(m, g, (self+1)%3, class, node{idx: 30}, node{idx: 31})
				lay(m, g, self, (class+1)%4, node{idx: 32}, node{idx: 33})
				retired(m, g, self, 25)
				turns, left := pruned(m, g, self, class, l)
				want := m.Copy()
				for _, x := range turns {
					put(want, x.at, x.is)
				}
				p := watched(m, self)
				for range 2 { // there is nothing left to be done again
					bag.Prune(p, g, class)
					same(t, "Prune", m, want, g)
					isListed(t, m, g, self, class, left...)
					if !slices.Equal(p.turns, turns) || p.told != 0 {
						t.Fatalf("%b: Prune changes %v, want %v", which, p.turns, turns)
					}
				}
			}
		}
	}
}

// TestPruneItems: P9.3, a node with one item, in whatever place, stays.
func TestPruneItems(t *testing.T) {
	g := arena(t, 1, 1)
	for slot := range 8 {
		for _, item := range []uint64{1, 1 << 24, 1 << 63, math.MaxUint64} {
			m := ready(t, g)
			lay(m, g, 0, 1, with(4, item-uint64(slot), slot))
			put(m, g.Item(4, slot), item)
			want := m.Copy()
			bag.Prune(port.New(m, 0), g, 1)
			same(t, "Prune", m, want, g)
		}
	}
}

// TestPruneScans: P9.3, nodes are retired as chapter 8 says: a full list is scanned, what no hazard protects goes back to the pool, and what one does stays retired, with its Mark.
func TestPruneScans(t *testing.T) {
	g := arena(t, 1, 2)
	m := ready(t, g)
	stack(m, g)
	lay(m, g, 1, 3, node{idx: 8}, with(3, 70, 7), node{idx: 20}, node{idx: 5}, node{idx: 11}, with(6, 80, 0), node{idx: 2}, node{idx: 9})
	put(m, g.Hazard(0, 1), 20)
	bag.Prune(port.New(m, 1), g, 3)
	isListed(t, m, g, 1, 3, with(3, 70, 7), with(6, 80, 0))
	if l := gone(m, g, 1); !slices.Equal(l, []int{20, 9}) {
		t.Fatalf("retired are %v", l)
	}
	if l, ok := free(m, g); !ok || !slices.Equal(l, []int{2, 11, 5, 8}) {
		t.Fatalf("free are %v", l)
	}
	if w := m.Word(g.Next(20)); w != ref(5)|mark {
		t.Fatalf("the Next of a node that stays retired is %#x", w)
	}
}

// TestPruneMeets: P9.3, P9.4, another thread takes all items, one by one, ahead of each access of a Prune: each is told once, and each node is in one place.
func TestPruneMeets(t *testing.T) {
	g := arena(t, 1, 2)
	for ahead := range 60 {
		for most := range 5 {
			m := ready(t, g)
			stack(m, g)
			lay(m, g, 0, 0, with(8, 10, 0), node{idx: 3}, with(20, 20, 7), with(5, 30, 2, 3))
			p, q := watched(m, 0), port.New(m, 1)
			var got []uint64
			p.meanwhile = func(api.Access) {
				if len(p.seen) < ahead || len(got) == most {
					return
				}
				if item, ok := bag.Take(q, g, 0); ok {
					got = append(got, item)
				}
			}
			bag.Prune(p, g, 0)
			if want := []uint64{10, 27, 32, 33}; !slices.Equal(both(got, items(m, g, 0)), want) {
				t.Fatalf("ahead of access %d: told are %v, left are %v", ahead, got, items(m, g, 0))
			}
			p.meanwhile = nil
			bag.Prune(p, g, 0)
			l, _ := listed(m, g, 0, 0)
			nodes := gone(m, g, 0)
			for _, n := range l {
				nodes = append(nodes, n.idx)
				if n.items == [8]uint64{} {
					t.Fatalf("ahead of access %d: node %d is left", ahead, n.idx)
				}
			}
			if slices.Sort(nodes); !slices.Equal(nodes, []int{3, 5, 8, 20}) {
				t.Fatalf("ahead of access %d: of the nodes there are %v", ahead, nodes)
			}
		}
	}
}

// TestAddMeets: P9.1, P9.4, another thread takes items ahead of each access of an Add: the item stands in a place that had none, or in a further node, which there is only if all places had an item when they were read; each item is there, or told, once.
func TestAddMeets(t *testing.T) {
	g := arena(t, 1, 2)
	further := 0
	for ahead := range 50 {
		for _, gap := range []int{-1, 3, 12} {
			m := ready(t, g)
			l := []node{full(8, 100), full(3, 200)}
			if gap >= 0 {
				l[gap/8].items[gap%8] = 0
			}
			lay(m, g, 0, 0, l...)
			all := append(items(m, g, 0), 77)
			p, q := watched(m, 0), port.New(m, 1)
			var got []uint64
			p.meanwhile = func(api.Access) {
				for len(p.seen) == ahead && len(got) < 10 {
					item, _ := bag.Take(q, g, 0)
					got = append(got, item)
				}
			}
			adds(t, p, g, 0, 77)
			if left := items(m, g, 0); !sameItems(both(got, left), all) {
				t.Fatalf("ahead of access %d: told are %v, left are %v", ahead, got, left)
			}
			l, ok := listed(m, g, 0, 0)
			if !ok || len(l) > 3 || len(l) == 3 && gap >= 0 {
				t.Fatalf("ahead of access %d: the list is %v, with a place at %d", ahead, l, gap)
			}
			if len(l) == 3 {
				further++
			}
		}
	}
	if further == 0 || further == 50 {
		t.Fatalf("there was a further node %d times", further)
	}
}

// TestModel: P9.1 to P9.4, calls of all kinds, one behind the other, by threads in turns, held to a model after each.
func TestModel(t *testing.T) {
	for seed := range 60 {
		c := chance(seed)
		g := arena(t, 1, 1+seed%4)
		m := ready(t, g)
		o := newModel(m, g)
		next := uint64(1)
		for n := range 1200 {
			self, class := c.below(g.Threads()), c.below(1+seed%4)
			p := port.New(m, self)
			puts := 6
			if n/200%2 == 1 {
				puts = 1 // now more is put, now more is taken
			}
			switch what := c.below(10); {
			case what < puts:
				next += uint64(1 + c.below(1000))
				if got, want := bag.Add(p, g, class, next), o.add(self, class, next); got != want {
					t.Fatalf("call %d: Add = %v", n, got)
				}
			case what == puts:
				bag.Prune(p, g, class)
				o.prune(self, class)
			default:
				item, ok := bag.Take(p, g, class)
				if want, is := o.take(self, class); item != want || ok != is {
					t.Fatalf("call %d: Take = %d, %v, want %d, %v", n, item, ok, want, is)
				}
			}
			o.holds(t, m)
		}
	}
}

// model is what a memory is to have, by the chapter.
type model struct {
	g     geom.Geom
	lists [][api.Classes][]node // of each thread
	gone  [][]int
	free  []int
	adds  [api.Classes]uint64
}

func newModel(m *mem.Memory, g geom.Geom) *model {
	o := &model{g: g, lists: make([][api.Classes][]node, g.Threads()), gone: make([][]int, g.Threads())}
	o.free, _ = free(m, g)
	for class := range o.adds {
		o.adds[class] = m.Word(g.Adds(class))
	}
	return o
}

func (o *model) add(self, class int, item uint64) bool {
	for i := range o.lists[self][class] {
		for j, is := range o.lists[self][class][i].items {
			if is == 0 {
				o.lists[self][class][i].items[j] = item
				o.adds[class]++
				return true
			}
		}
	}
	if len(o.free) == 0 {
		return false
	}
	o.lists[self][class] = append([]node{{o.free[0], [8]uint64{item}}}, o.lists[self][class]...)
	o.free = o.free[1:]
	o.adds[class]++
	return true
}

func (o *model) take(self, class int) (uint64, bool) {
	for i := range o.lists {
		for _, l := range o.lists[(self+i)%len(o.lists)][class : class+1] {
			for k := range l {
				for j, item := range l[k].items {
					if item != 0 {
						l[k].items[j] = 0
						return item, true
					}
				}
			}
		}
	}
	return 0, false
}

func (o *model) prune(self, class int) {
	var left []node
	for _, n := range o.lists[self][class] {
		if n.items != [8]uint64{} {
			left = append(left, n)
			continue
		}
		o.gone[self] = append(o.gone[self], n.idx)
		if len(o.gone[self]) == 2*o.g.Threads()+1 {
			for _, idx := range o.gone[self] {
				o.free = append([]int{idx}, o.free...)
			}
			o.gone[self] = nil
		}
	}
	o.lists[self][class] = left
}

// holds holds a memory to the model.
func (o *model) holds(t *testing.T, m *mem.Memory) {
	t.Helper()
	for self := range o.lists {
		for class := range api.Classes {
			isListed(t, m, o.g, self, class, o.lists[self][class]...)
		}
		if l := gone(m, o.g, self); !slices.Equal(l, o.gone[self]) {
			t.Fatalf("thread %d has retired %v, want %v", self, l, o.gone[self])
		}
		for slot := range 2 {
			if m.Word(o.g.Hazard(self, slot)) != 0 {
				t.Fatalf("thread %d has a hazard", self)
			}
		}
	}
	if l, ok := free(m, o.g); !ok || !slices.Equal(l, o.free) {
		t.Fatalf("free are %v, want %v", l, o.free)
	}
	for class, n := range o.adds {
		if m.Word(o.g.Adds(class)) != n {
			t.Fatalf("class %d: Adds is %#x, want %#x", class, m.Word(o.g.Adds(class)), n)
		}
	}
}

// wrong are numbers that no class and, of two threads, no thread has.
var wrong = []int{-1, 4, 5, 63, 64, 1 << 32, 1<<32 + 1, math.MinInt, math.MaxInt}

// nothing holds each of the three calls to doing nothing.
func nothing(t *testing.T, what string, p *watch, g geom.Geom, class int) {
	t.Helper()
	want := p.m.Copy()
	if bag.Add(p, g, class, 5) {
		t.Errorf("%s: Add = true", what)
	}
	if item, ok := bag.Take(p, g, class); item != 0 || ok {
		t.Errorf("%s: Take = %d, %v", what, item, ok)
	}
	bag.Prune(p, g, class)
	if len(p.seen) != 0 || p.told != 0 || !mem.Same(p.m, want) {
		t.Errorf("%s: there are the accesses %v", what, p.seen)
	}
}

// TestNone: P9.3, R1, no port, no pages, a class or a thread that is none: nothing is done, by no access, and false is told.
func TestNone(t *testing.T) {
	g := arena(t, 1, 2)
	for class := range api.Classes {
		if bag.Add(nil, g, class, 5) || bag.Add(nil, geom.Geom{}, class, 5) {
			t.Error("no port: Add = true")
		}
		if item, ok := bag.Take(nil, g, class); item != 0 || ok {
			t.Errorf("no port: Take = %d, %v", item, ok)
		}
		bag.Prune(nil, g, class)
		bag.Take(nil, geom.Geom{}, class)
		bag.Prune(nil, geom.Geom{}, class)
	}
	for self := range 2 {
		m := ready(t, g)
		for class := range api.Classes {
			lay(m, g, self, class, node{idx: 2*class + 1}, full(2*class+2, 50))
			put(m, g.Item(2*class+2, class), 0)
		}
		for class := range api.Classes {
			nothing(t, "no pages", watched(m, self), geom.Geom{}, class)
			for _, none := range wrong {
				if none != 4 {
					nothing(t, "no thread", watched(m, none), g, class)
				}
			}
			nothing(t, "no thread", watched(m, 2), g, class)
		}
		for _, none := range wrong {
			nothing(t, "no class", watched(m, self), g, none)
			nothing(t, "no class and no thread", watched(m, none), g, none)
		}
	}
}

// every does each of the calls.
func every(p api.Port, g geom.Geom, class int) {
	bag.Add(p, g, class, 5)
	bag.Take(p, g, class)
	bag.Add(p, g, class, 6)
	bag.Prune(p, g, class)
}

// TestNowhere: R1, ports that lead to no memory, or to one without those words: each call ends, and nothing is put without a node.
func TestNowhere(t *testing.T) {
	g := arena(t, 1, 2)
	var nobody *port.Direct
	for _, p := range []api.Port{nobody, port.New(nil, 0), port.New(nil, 1)} {
		every(p, g, 3)
		if item, ok := bag.Take(p, g, 0); bag.Add(p, g, 0, 7) || item != 0 || ok {
			t.Error("nowhere there is something")
		}
	}
	for words := range g.Words() {
		m, _ := mem.New(words, 0)
		pool.Init(port.New(m, 0), g)
		for class := range api.Classes {
			every(port.New(m, class%2), g, class)
		}
	}
}

// TestRound: R1, lists that lead round, and Marks that stay, in a memory that none has made ready: each call ends, and there is nothing to be told where no item is.
func TestRound(t *testing.T) {
	g := arena(t, 1, 2)
	for _, is := range []node{{}, full(0, 9)} {
		for _, last := range []uint64{ref(3), ref(4), ref(5), ref(5) | mark, ref(3) | mark, mark, math.MaxUint64} {
			for self := range 2 {
				m := ready(t, g)
				for _, idx := range []int{5, 4, 3} {
					is.idx = idx
					lay(m, g, 1, 0, is)
				}
				put(m, g.Next(3), ref(4))
				put(m, g.Next(4), ref(5))
				put(m, g.Next(5), last)
				p := port.New(m, self)
				for range 24 {
					if item, ok := bag.Take(p, g, 0); ok != (is.items[0] != 0) {
						t.Fatalf("the last Next is %#x: Take = %d, %v", last, item, ok)
					}
				}
				takes(t, p, g, 0, 0)
				for range 3 {
					every(p, g, 0)
				}
			}
		}
	}
}

// TestNoNode: R1, a Ref to a node that is none, in a memory that none has made ready: the list ends there.
func TestNoNode(t *testing.T) {
	g := arena(t, 1, 1)
	for _, none := range []int{g.Nodes() + 1, 1 << 23, 1<<24 - 1} {
		for nodes := range 3 {
			m := ready(t, g)
			stack(m, g, 7, 8)
			l := []node{full(3, 100), full(4, 200)}[:nodes]
			lay(m, g, 0, 0, append(l, node{idx: 5})...)
			at := g.Head(0, 0)
			if nodes > 0 {
				at = g.Next(l[nodes-1].idx)
			}
			put(m, at, ref(none))
			p := port.New(m, 0)
			adds(t, p, g, 0, 77)
			if m.Word(g.Head(0, 0)) != ref(7) || m.Word(g.Item(7, 0)) != 77 {
				t.Fatalf("node %d: the item is not put", none)
			}
			takes(t, p, g, 0, 77)
			for range 8 * nodes {
				if _, ok := bag.Take(p, g, 0); !ok {
					t.Fatalf("node %d: an item is missed", none)
				}
			}
			takes(t, p, g, 0, 0)
			bag.Prune(p, g, 0)
			if m.Word(g.Head(0, 0)) != ref(none) || m.Word(g.Gone(0)) != uint64(nodes+1)%3 {
				t.Fatalf("node %d: the Head is %#x, and %d are retired", none, m.Word(g.Head(0, 0)), m.Word(g.Gone(0)))
			}
		}
	}
}

// TestGarbage: R1, words that none has made ready: each call ends, and the hazards are 0 behind a Take.
func TestGarbage(t *testing.T) {
	g := arena(t, 1, 2)
	c := chance(9)
	fills := []func() uint64{
		func() uint64 { return math.MaxUint64 },
		func() uint64 { return uint64(g.Nodes() + 1) },
		func() uint64 { return uint64(c.below(9)) },
		func() uint64 { return uint64(c.below(2) * c.below(40)) },
		func() uint64 { return uint64(c.below(40) | c.below(2)*mark) },
		func() uint64 { return uint64(c.below(1<<31))<<33 + uint64(c.below(1<<31)) },
	}
	for i := range 600 {
		m, _ := mem.New(g.Words(), 0)
		for at := range m.Words() {
			put(m, at, fills[i%len(fills)]())
		}
		p := port.New(m, i%2)
		for range 3 {
			every(p, g, c.below(api.Classes))
		}
		bag.Take(p, g, 0)
		if m.Word(g.Hazard(i%2, 0)) != 0 || m.Word(g.Hazard(i%2, 1)) != 0 {
			t.Fatal("a hazard is left")
		}
	}
}

// TestNothingIsKept: R3, what is answered hangs on the memory alone.
func TestNothingIsKept(t *testing.T) {
	g := arena(t, 1, 2)
	a, b := ready(t, g), ready(t, g)
	adds(t, port.New(a, 0), g, 0, 5, 6)
	adds(t, port.New(b, 0), g, 0, 7)
	takes(t, port.New(a.Copy(), 1), g, 0, 5, 6, 0)
	takes(t, port.New(b, 1), g, 0, 7, 0)
	takes(t, port.New(a, 1), g, 0, 5)
	takes(t, port.New(a, 0), g, 0, 6, 0)
}
