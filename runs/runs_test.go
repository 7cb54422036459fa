package runs_test

import (
	"math"
	"slices"
	"testing"

	"quillet/api"
	"quillet/geom"
	"quillet/mem"
	"quillet/port"
	"quillet/runs"
)

// The tests name the promises of shared/doc/10-runs.md that they hold the package to. Those of marks while another thread holds the lock are in rows_test.go, the logarithm's in log_test.go.

// The kinds of pages, by chapter 1.
const (
	body  = 0
	free  = 1
	tail  = 2
	slab  = 3
	used  = 4
	later = 5 // deferred
)

// run is one of a layout. A slab has a class and an owner, too.
type run struct{ kind, len, class, owner int }

// layout is what the pages of an arena are, run by run.
type layout []run

// The runs of a layout that is told by hand.
func f(n int) run                   { return run{kind: free, len: n} }
func u(n int) run                   { return run{kind: used, len: n} }
func d(n int) run                   { return run{kind: later, len: n} }
func s(class, owner int) run        { return run{slab, 1, class, owner} }
func packed(kind, n int) uint64     { return uint64(kind) | uint64(n)<<3 }
func (r run) isFree() bool          { return r.kind == free }
func (r run) word() uint64          { return packed(r.kind, r.len) | uint64(r.class)<<13 | uint64(r.owner)<<16 }
func (l layout) clone() layout      { return slices.Clone(l) }
func (l layout) same(o layout) bool { return slices.Equal(l, o) }

// pages is how many a layout has.
func (l layout) pages() int {
	n := 0
	for _, r := range l {
		n += r.len
	}
	return n
}

// words are those of a layout's pages, as the chapter says.
func (l layout) words() []uint64 {
	var words []uint64
	for _, r := range l {
		of := make([]uint64, r.len)
		of[0] = r.word()
		if r.kind == free && r.len > 1 {
			of[r.len-1] = packed(tail, r.len)
		}
		words = append(words, of...)
	}
	return words
}

// bins are a layout's counts of free runs.
func (l layout) bins() [9]uint64 {
	var n [9]uint64
	for _, r := range l {
		for b := range n {
			if r.isFree() && r.len >= 1<<b && r.len <= 1<<(b+1)-1 {
				n[b]++
			}
		}
	}
	return n
}

// first is the first page of a layout's run.
func (l layout) first(i int) int { return l[:i].pages() }

// whole is a layout with free runs that are side by side made one.
func (l layout) whole() layout {
	var o layout
	for _, r := range l {
		if n := len(o); n > 0 && r.isFree() && o[n-1].isFree() {
			o[n-1].len += r.len
		} else if r.len > 0 {
			o = append(o, r)
		}
	}
	return o
}

// replaced is a layout with other runs in place of one.
func (l layout) replaced(i int, by ...run) layout {
	return slices.Concat(l[:i], by, l[i+1:]).whole()
}

// alloc is what Alloc ought to do, looked for page by page.
func (l layout) alloc(k, a int) (layout, int, bool) {
	best, page := -1, 0
	for i, r := range l {
		if !r.isFree() || k < 1 || a < 1 || best >= 0 && r.len >= l[best].len {
			continue
		}
		end := l.first(i) + r.len
		for at := l.first(i); at < end && k <= end-at; at++ {
			if at%a == 0 {
				best, page = i, at
				break
			}
		}
	}
	if best < 0 {
		return l, 0, false
	}
	ahead := page - l.first(best)
	return l.replaced(best, f(ahead), u(k), f(l[best].len-ahead-k)), page, true
}

// find is the run of a page and a length that is of one of these kinds; -1, if there is none.
func (l layout) find(page, k int, kinds ...int) int {
	for i, r := range l {
		if l.first(i) == page && r.len == k && slices.Contains(kinds, r.kind) {
			return i
		}
	}
	return -1
}

// freed, marked and collected are what Free, Mark and Collect ought to do.
func (l layout) freed(page, k int) (layout, bool) {
	i := l.find(page, k, used, later, slab)
	if i < 0 {
		return l, false
	}
	return l.replaced(i, f(k)), true
}

func (l layout) marked(page, k int) (layout, bool) {
	i := l.find(page, k, used)
	if i < 0 {
		return l, false
	}
	return l.replaced(i, d(k)), true
}

func (l layout) collected() (layout, int) {
	n, o := 0, l.clone()
	for i, r := range o {
		if r.kind == later {
			o[i] = f(r.len)
			n++
		}
	}
	return o.whole(), n
}

// layouts are all that there are of so many pages.
func layouts(pages int) []layout {
	var all []layout
	var grow func(l layout, rest int)
	grow = func(l layout, rest int) {
		if rest == 0 {
			all = append(all, l.clone())
			return
		}
		for n := 1; n <= rest; n++ {
			if len(l) == 0 || !l[len(l)-1].isFree() {
				grow(append(l, f(n)), rest-n)
			}
			grow(append(l, u(n)), rest-n)
			grow(append(l, d(n)), rest-n)
		}
		grow(append(l, s(rest%4, rest*13%64)), rest-1)
	}
	grow(nil, pages)
	return all
}

// arena is the geometry of an arena that there can be.
func arena(t *testing.T, pages, threads int) geom.Geom {
	t.Helper()
	g, ok := geom.New(pages, threads)
	if !ok {
		t.Fatalf("geom.New(%d, %d): false", pages, threads)
	}
	return g
}

// store lays a word of a memory.
func store(m *mem.Memory, at int, w uint64) {
	m.Do(api.Access{Kind: api.Store, At: at, A: w})
}

// zeros is a memory of an arena's words and bytes, all of which are 0.
func zeros(t *testing.T, g geom.Geom) *mem.Memory {
	t.Helper()
	m, e := mem.New(g.Words(), g.Pages()*api.Page)
	if e != api.OK {
		t.Fatalf("mem.New: %d", e)
	}
	return m
}

// unlike is such a memory, no two of whose words are the same.
func unlike(t *testing.T, g geom.Geom) *mem.Memory {
	t.Helper()
	m := zeros(t, g)
	for at := range m.Words() {
		store(m, at, uint64(at)*0x9e3779b97f4a7c15+0x1234567)
	}
	for at := range m.Bytes() {
		m.Do(api.Access{Kind: api.Put, At: at, A: uint64(at)*7 + 1})
	}
	return m
}

// laid is a copy of a memory with a layout laid into it by hand, word by word.
func laid(m *mem.Memory, g geom.Geom, l layout) *mem.Memory {
	m = m.Copy()
	for page, w := range l.words() {
		store(m, g.Page(page), w)
	}
	for b, n := range l.bins() {
		store(m, g.Bin(b), n)
	}
	return m
}

// isLaid holds a memory to a layout: its pages' words, its bins, and every other word and byte, which is to be as in the memory that it was laid into.
func isLaid(t *testing.T, what string, got, into *mem.Memory, g geom.Geom, l layout) {
	t.Helper()
	want := laid(into, g, l)
	if mem.Same(got, want) {
		return
	}
	for page, w := range l.words() {
		if is := got.Word(g.Page(page)); is != w {
			t.Errorf("%s: page %d is %#x, want %#x", what, page, is, w)
		}
	}
	for b, n := range l.bins() {
		if is := got.Word(g.Bin(b)); is != n {
			t.Errorf("%s: bin %d is %d, want %d", what, b, is, n)
		}
	}
	t.Fatalf("%s: want %v, and nothing else touched", what, l)
}

// watch is a port that writes down its accesses. Ahead of each of them it does what meanwhile says, which is told how many there were.
type watch struct {
	*port.Direct
	seen      []api.Access
	told      int
	meanwhile func(n int)
}

func (w *watch) note(a api.Access) {
	if w.meanwhile != nil {
		w.meanwhile(len(w.seen))
	}
	w.seen = append(w.seen, a)
}

func (w *watch) Load(at int) uint64 {
	w.note(api.Access{Kind: api.Load, At: at})
	return w.Direct.Load(at)
}

func (w *watch) Store(at int, v uint64) {
	w.note(api.Access{Kind: api.Store, At: at, A: v})
	w.Direct.Store(at, v)
}

func (w *watch) CAS(at int, old, new uint64) bool {
	w.note(api.Access{Kind: api.CAS, At: at, A: old, B: new})
	return w.Direct.CAS(at, old, new)
}

func (w *watch) Add(at int, n uint64) uint64 {
	w.note(api.Access{Kind: api.Add, At: at, A: n})
	return w.Direct.Add(at, n)
}

func (w *watch) Get(at int) byte {
	w.note(api.Access{Kind: api.Get, At: at})
	return w.Direct.Get(at)
}

func (w *watch) Put(at int, b byte) {
	w.note(api.Access{Kind: api.Put, At: at, A: uint64(b)})
	w.Direct.Put(at, b)
}

func (w *watch) Tell(r api.Result) {
	w.told++
	w.Direct.Tell(r)
}

// watched is a port of a thread to a memory that writes down.
func watched(m *mem.Memory, self int) *watch {
	return &watch{Direct: port.New(m, self)}
}

// changes asks whether a port had an access that may change a word.
func (w *watch) changes() bool {
	return slices.ContainsFunc(w.seen, func(a api.Access) bool { return a.Kind != api.Load })
}

// keepsTo holds a port to having touched pages' words and bins alone, and to having told nothing.
func (w *watch) keepsTo(t *testing.T, what string, g geom.Geom) {
	t.Helper()
	for _, a := range w.seen {
		isPage := a.At >= g.Page(0) && a.At <= g.Page(g.Pages()-1)
		isBin := a.At >= g.Bin(0) && a.At <= g.Bin(8)
		if !isPage && !isBin || a.Kind == api.Get || a.Kind == api.Put {
			t.Fatalf("%s: an access %v", what, a)
		}
	}
	if w.told != 0 {
		t.Fatalf("%s tells what only a call tells", what)
	}
}

// lab is a memory in which calls are held to the layout that each ought to leave.
type lab struct {
	t    *testing.T
	g    geom.Geom
	into *mem.Memory // what all but pages and bins is
	m    *mem.Memory
	l    layout
	p    *watch
}

// in is a lab with a layout.
func in(t *testing.T, g geom.Geom, into *mem.Memory, l layout) *lab {
	m := laid(into, g, l)
	return &lab{t, g, into, m, l, watched(m, 0)}
}

// made is a lab with a layout in an arena of its own, of one thread.
func made(t *testing.T, l ...run) *lab {
	t.Helper()
	g := arena(t, layout(l).pages(), 1)
	return in(t, g, unlike(t, g), l)
}

// left holds the memory to the layout that a call ought to have left; if it ought to have changed nothing, nothing may be stored, either.
func (x *lab) left(what string, l layout) {
	x.t.Helper()
	isLaid(x.t, what, x.m, x.into, x.g, l)
	x.p.keepsTo(x.t, what, x.g)
	if l.same(x.l) && what != "Mark" && x.p.changes() {
		x.t.Fatalf("%s, of %v: changes nothing, but has the accesses %v", what, x.l, x.p.seen)
	}
	x.l, x.p.seen = l, nil
}

// alloc, free, mark and collect do a call, and hold it to what it ought to answer, and to leave.
func (x *lab) alloc(k, a int) (int, bool) {
	x.t.Helper()
	l, page, ok := x.l.alloc(k, a)
	at, got := runs.Alloc(x.p, x.g, k, a)
	if at != page || got != ok {
		x.t.Fatalf("%v: Alloc(%d, %d) = %d, %v, want %d, %v", x.l, k, a, at, got, page, ok)
	}
	x.left("Alloc", l)
	return at, got
}

func (x *lab) free(page, k int) bool {
	x.t.Helper()
	l, ok := x.l.freed(page, k)
	got := runs.Free(x.p, x.g, page, k)
	if got != ok {
		x.t.Fatalf("%v: Free(%d, %d) = %v, want %v", x.l, page, k, got, ok)
	}
	x.left("Free", l)
	return got
}

func (x *lab) mark(page, k int) bool {
	x.t.Helper()
	l, ok := x.l.marked(page, k)
	got := runs.Mark(x.p, x.g, page, k)
	if got != ok {
		x.t.Fatalf("%v: Mark(%d, %d) = %v, want %v", x.l, page, k, got, ok)
	}
	var want []api.Access
	if page >= 0 && page < x.g.Pages() && k >= 1 && k <= x.g.Pages() {
		want = []api.Access{{Kind: api.CAS, At: x.g.Page(page), A: packed(used, k), B: packed(later, k)}}
	}
	if !slices.Equal(x.p.seen, want) {
		x.t.Fatalf("%v: Mark(%d, %d) has the accesses %v, want %v", x.l, page, k, x.p.seen, want)
	}
	x.left("Mark", l)
	return got
}

func (x *lab) collect() int {
	x.t.Helper()
	l, n := x.l.collected()
	got := runs.Collect(x.p, x.g)
	if got != n {
		x.t.Fatalf("%v: Collect = %d, want %d", x.l, got, n)
	}
	x.left("Collect", l)
	return got
}

// is holds the layout to one that is told by hand.
func (x *lab) is(l ...run) {
	x.t.Helper()
	if !x.l.same(l) {
		x.t.Fatalf("the layout is %v, want %v", x.l, l)
	}
}

// had holds an Alloc's answer to one that is told by hand.
func (x *lab) had(k, a, page int) {
	x.t.Helper()
	if got, ok := x.alloc(k, a); got != page || !ok {
		x.t.Fatalf("Alloc(%d, %d) = %d, %v, want %d", k, a, got, ok, page)
	}
}

// none holds an Alloc to there being none.
func (x *lab) none(k, a int) {
	x.t.Helper()
	if got, ok := x.alloc(k, a); got != 0 || ok {
		x.t.Fatalf("Alloc(%d, %d) = %d, %v, want none", k, a, got, ok)
	}
}

// chance is a row of numbers by a short rule.
type chance uint64

func (c *chance) below(n int) int {
	*c = *c*6364136223846793005 + 1442695040888963407
	return int(uint64(*c) >> 33 % uint64(n))
}

// TestExamples: P10.1 to P10.4, the chapter's examples.
func TestExamples(t *testing.T) {
	g := arena(t, 8, 1)
	m := zeros(t, g)
	p := port.New(m, 0)
	alloc := func(k, a, page int, ok bool) {
		t.Helper()
		if got, had := runs.Alloc(p, g, k, a); got != page || had != ok {
			t.Errorf("Alloc(%d, %d) = %d, %v, want %d, %v", k, a, got, had, page, ok)
		}
	}
	runs.Init(p, g)
	alloc(3, 1, 0, true)
	alloc(1, 4, 4, true)
	alloc(2, 1, 5, true)
	isLaid(t, "the rest", m, zeros(t, g), g, layout{u(3), f(1), u(1), u(2), f(1)})
	if !runs.Free(p, g, 4, 1) {
		t.Error("Free(4, 1)")
	}
	alloc(2, 1, 3, true)
	if !runs.Mark(p, g, 0, 3) {
		t.Error("Mark(0, 3)")
	}
	alloc(3, 1, 0, false)
	if n := runs.Collect(p, g); n != 1 {
		t.Errorf("Collect = %d", n)
	}
	alloc(3, 1, 0, true)
	alloc(9, 1, 0, false)
	alloc(0, 1, 0, false)
	if runs.Free(p, g, 1, 1) || runs.Mark(p, g, 5, 1) {
		t.Error("Free(1, 1), or Mark(5, 1)")
	}
	isLaid(t, "the end", m, zeros(t, g), g, layout{u(3), u(2), u(2), f(1)})
}

// TestWords: P10.1 to P10.4, the words of runs' first, middle and last pages, and the bins, told by hand.
func TestWords(t *testing.T) {
	g := arena(t, 7, 1)
	m := zeros(t, g)
	p := port.New(m, 0)
	is := func(what string, bins [9]uint64, words ...uint64) {
		t.Helper()
		for page, w := range words {
			if got := m.Word(g.Page(page)); got != w {
				t.Errorf("%s: page %d is %#x, want %#x", what, page, got, w)
			}
		}
		for b, n := range bins {
			if got := m.Word(g.Bin(b)); got != n {
				t.Errorf("%s: bin %d is %d, want %d", what, b, got, n)
			}
		}
	}
	runs.Init(p, g)
	is("Init", [9]uint64{2: 1}, 1|7<<3, 0, 0, 0, 0, 0, 2|7<<3)
	runs.Alloc(p, g, 3, 2)
	is("Alloc(3, 2)", [9]uint64{2: 1}, 4|3<<3, 0, 0, 1|4<<3, 0, 0, 2|4<<3)
	runs.Alloc(p, g, 1, 5)
	is("Alloc(1, 5)", [9]uint64{0: 1, 1: 1}, 4|3<<3, 0, 0, 1|2<<3, 2|2<<3, 4|1<<3, 1|1<<3)
	runs.Mark(p, g, 0, 3)
	is("Mark(0, 3)", [9]uint64{0: 1, 1: 1}, 5|3<<3, 0, 0, 1|2<<3, 2|2<<3, 4|1<<3, 1|1<<3)
	runs.Collect(p, g)
	is("Collect", [9]uint64{0: 1, 2: 1}, 1|5<<3, 0, 0, 0, 2|5<<3, 4|1<<3, 1|1<<3)
	runs.Free(p, g, 5, 1)
	is("Free(5, 1)", [9]uint64{2: 1}, 1|7<<3, 0, 0, 0, 0, 0, 2|7<<3)
	runs.Alloc(p, g, 7, 1)
	is("Alloc(7, 1)", [9]uint64{}, 4|7<<3, 0, 0, 0, 0, 0, 0)
}

// TestInit: P10.1, arenas of all numbers of pages: one free run, which its bin counts, and nothing else.
func TestInit(t *testing.T) {
	for pages := 1; pages <= 256; pages++ {
		for _, threads := range []int{1, 3, 64} {
			if threads == 64 && pages%64 > 1 {
				continue
			}
			g := arena(t, pages, threads)
			m := zeros(t, g)
			p := watched(m, threads-1)
			runs.Init(p, g)
			isLaid(t, "Init", m, zeros(t, g), g, layout{f(pages)})
			p.keepsTo(t, "Init", g)
		}
	}
}

// TestBestFit: P10.2, layouts told by hand: the shortest run that fits, of these the first one; of the first place in it that is a multiple of a; what is left ahead and behind is free.
func TestBestFit(t *testing.T) {
	x := made(t, f(5), u(1), f(3), u(1), f(2), u(1), f(3), u(1), f(4))
	x.had(3, 1, 6) // of two runs of 3 pages the first one
	x.had(3, 1, 13)
	x.had(3, 1, 17) // 4 pages are less than 5
	x.had(1, 1, 20)
	x.had(2, 1, 10)
	x.had(2, 1, 0)
	x.is(u(2), f(3), u(1), u(3), u(1), u(2), u(1), u(3), u(1), u(3), u(1))
	x.none(4, 1)

	x = made(t, u(1), f(2), u(1), f(4), u(1), f(7))
	x.had(2, 2, 4) // pages 1 and 2 are no two from a multiple of 2 on
	x.is(u(1), f(2), u(1), u(2), f(2), u(1), f(7))
	x.had(1, 2, 2) // what is left is ahead
	x.is(u(1), f(1), u(1), u(1), u(2), f(2), u(1), f(7))
	x.had(1, 5, 10) // what is left is ahead, and behind
	x.is(u(1), f(1), u(1), u(1), u(2), f(2), u(1), f(1), u(1), f(5))
	x.had(2, 7, 14)
	x.is(u(1), f(1), u(1), u(1), u(2), f(2), u(1), f(1), u(1), f(3), u(2))
	x.none(1, 8) // 8 is used, and so is 0, a multiple of all
	x.had(2, 1, 6)
	x.had(3, 1, 11)
	x.is(u(1), f(1), u(1), u(1), u(2), u(2), u(1), f(1), u(1), u(3), u(2))
	x.had(1, 3, 9)
	x.had(1, 1, 1)
	x.none(1, 1)

	x = made(t, f(3), u(1))
	x.had(1, math.MaxInt, 0) // a multiple of all
	x.none(1, math.MaxInt)
	x.had(2, 1, 1)
	x.is(u(1), u(2), u(1))
}

// TestAllocOfNone: P10.2, no run fits, or k or a is below 1: 0, false, and no word is changed.
func TestAllocOfNone(t *testing.T) {
	x := made(t, f(3), u(1), d(2), s(3, 63), f(1))
	wrong := []int{0, -1, -2, -8, math.MinInt, math.MinInt + 1, math.MinInt32, -1 << 10}
	great := []int{4, 5, 7, 8, 9, 255, 256, 257, 1023, 1024, 1025, 1 << 20, math.MaxInt32, math.MaxInt - 1, math.MaxInt}
	for _, k := range slices.Concat(wrong, great) {
		for _, a := range slices.Concat(wrong, great, []int{1, 2, 3}) {
			x.none(k, a)
		}
	}
	for _, a := range wrong {
		for k := range 5 {
			x.none(k, a)
		}
	}
	x = made(t, u(1), f(3))
	for _, a := range great {
		x.none(1, a)
		x.none(math.MaxInt, a)
	}
	full := made(t, u(8))
	full.none(1, 1)
	full.none(8, 1)
}

// TestFreeJoins: P10.3, joined with the free run ahead, with the one behind, with both, with none; free runs of one page, and of more.
func TestFreeJoins(t *testing.T) {
	for _, k := range []int{1, 2, 5} {
		for _, of := range []run{u(k), d(k), s(1, 40)} {
			if of.len != k {
				continue
			}
			for _, n := range []int{1, 2, 4} {
				made(t, f(n), of).freesAll(n, k)
				made(t, of, f(n)).freesAll(0, k)
				made(t, f(n), of, f(3)).freesAll(n, k)
				made(t, f(n), of, f(1)).freesAll(n, k)
				x := made(t, f(n), of, u(n), f(1))
				x.free(n, k)
				x.is(f(n+k), u(n), f(1))
				x = made(t, f(n), d(n), of, f(2), u(1), f(9))
				x.free(2*n, k)
				x.is(f(n), d(n), f(k+2), u(1), f(9))
				x = made(t, f(n), u(n), of, u(n), f(n))
				x.free(2*n, k)
				x.is(f(n), u(n), f(k), u(n), f(n))
				x = made(t, s(0, 0), of, s(3, 63))
				x.free(1, k)
				x.is(s(0, 0), f(k), s(3, 63))
			}
			made(t, of).freesAll(0, k)
		}
	}
}

// freesAll frees the last run that there is: all pages are one free run.
func (x *lab) freesAll(page, k int) {
	x.t.Helper()
	if !x.free(page, k) {
		x.t.Fatalf("Free(%d, %d): false", page, k)
	}
	x.is(f(x.g.Pages()))
}

// TestFreeSlab: P10.3, a run of one page of Kind Slab, of each class and owner that there can be.
func TestFreeSlab(t *testing.T) {
	g := arena(t, 3, 1)
	into := unlike(t, g)
	for class := range 4 {
		for owner := range 64 {
			x := in(t, g, into, layout{u(1), s(class, owner), s(owner%4, class)})
			x.free(1, 2)
			x.free(1, 0)
			if !x.free(1, 1) || x.free(1, 1) {
				t.Errorf("class %d, owner %d: Free(1, 1)", class, owner)
			}
			x.is(u(1), f(1), s(owner%4, class))
		}
	}
}

// wild are numbers that are no page's and no length.
func wild() []int {
	l := []int{-1, -2, -3, -8, -9, -256, -1024, math.MinInt, math.MinInt + 1, math.MinInt32, math.MaxInt, math.MaxInt - 1, math.MaxInt - 7, math.MaxInt32}
	for bit := 8; bit < 63; bit++ { // what is as a number that fits in its lowest bits alone
		for low := range 9 {
			l = append(l, 1<<bit+low, -1<<bit+low-9)
		}
	}
	return l
}

// TestFreeOfNone: P10.3, what is no such run: a first page or a length that is not its own, a free run, a page that there is not: false, and no word is changed.
func TestFreeOfNone(t *testing.T) {
	x := made(t, u(3), f(2), d(2), s(2, 17), f(1))
	own := [][2]int{{0, 3}, {5, 2}, {7, 1}}
	for page := -3; page < 13; page++ {
		for k := -3; k < 13; k++ {
			if !slices.Contains(own, [2]int{page, k}) && x.free(page, k) {
				t.Errorf("Free(%d, %d): true", page, k)
			}
		}
	}
	for _, n := range wild() {
		for i := range 9 {
			if x.free(n, i) || x.free(i, n) || x.free(n, n) {
				t.Errorf("Free of %d, and %d: true", n, i)
			}
		}
	}
	x.is(u(3), f(2), d(2), s(2, 17), f(1))
	for _, r := range own {
		if !x.free(r[0], r[1]) || x.free(r[0], r[1]) {
			t.Errorf("Free%v", r)
		}
	}
	x.is(f(9))
	x.free(0, 9)
}

// TestMark: P10.4, a used run, once; what is deferred, free, a Slab, of another length, or of another first page: false, by a CAS that is not done.
func TestMark(t *testing.T) {
	l := []run{u(3), f(2), d(2), s(2, 17), f(1), u(1), s(0, 0)}
	x := made(t, l...)
	own := [][2]int{{0, 3}, {9, 1}}
	for page := -3; page < 14; page++ {
		for k := -3; k < 14; k++ {
			if !slices.Contains(own, [2]int{page, k}) && x.mark(page, k) {
				t.Errorf("Mark(%d, %d): true", page, k)
			}
		}
	}
	x.is(l...)
	for _, r := range own {
		if !x.mark(r[0], r[1]) || x.mark(r[0], r[1]) {
			t.Errorf("Mark%v", r)
		}
	}
	x.is(d(3), f(2), d(2), s(2, 17), f(1), d(1), s(0, 0))
	all := made(t, u(8))
	if !all.mark(0, 8) || all.mark(0, 8) || all.collect() != 1 {
		t.Error("Mark of all pages")
	}
}

// TestMarkOfNone: P10.4, a page that there is not, a k below 1, or above all pages: false, without an access, also where another word, or one whose lowest bits are as those of k, is what a used run's is.
func TestMarkOfNone(t *testing.T) {
	x := made(t, u(3), u(1), u(4))
	for _, n := range wild() {
		for i := range 9 {
			if x.mark(n, i) || x.mark(i, n) || x.mark(n, n) {
				t.Errorf("Mark of %d, and %d: true", n, i)
			}
		}
	}
	m := zeros(t, x.g)
	for at := range m.Words() {
		store(m, at, packed(used, 3))
	}
	was, p := m.Copy(), watched(m, 0)
	for _, n := range append(wild(), 8, 9) {
		for i := range 9 {
			if runs.Mark(p, x.g, n, i) || runs.Mark(p, x.g, n, 3) || n != 8 && runs.Mark(p, x.g, i, n) || runs.Mark(p, x.g, i, n+1<<10) {
				t.Errorf("Mark of %d, and %d: true", n, i)
			}
		}
	}
	for _, a := range p.seen {
		if a.Kind != api.CAS || a.At < x.g.Page(0) || a.At > x.g.Page(7) {
			t.Fatalf("an access %v", a)
		}
	}
	if !mem.Same(m, was) {
		t.Error("a word is touched")
	}
}

// TestCollect: P10.4, each deferred run is freed, others are left; there may be none, or nothing else.
func TestCollect(t *testing.T) {
	for _, c := range []struct {
		l, left layout
		n       int
	}{
		{layout{f(4)}, layout{f(4)}, 0},
		{layout{u(4)}, layout{u(4)}, 0},
		{layout{d(4)}, layout{f(4)}, 1},
		{layout{d(1)}, layout{f(1)}, 1},
		{layout{d(1), d(1), d(1), d(5), d(2)}, layout{f(10)}, 5},
		{layout{f(2), d(2), f(2), d(2), f(3), d(1)}, layout{f(12)}, 3},
		{layout{d(2), f(2), d(2), f(2), d(1), f(3)}, layout{f(12)}, 3},
		{layout{u(2), d(3), u(1), d(1), s(1, 9), d(2)}, layout{u(2), f(3), u(1), f(1), s(1, 9), f(2)}, 3},
		{layout{d(2), u(2), d(1), d(2), s(3, 0), d(2), f(1), u(1)}, layout{f(2), u(2), f(3), s(3, 0), f(3), u(1)}, 4},
		{layout{s(0, 1), s(1, 2), u(1), f(1), u(3)}, layout{s(0, 1), s(1, 2), u(1), f(1), u(3)}, 0},
	} {
		x := made(t, c.l...)
		if n := x.collect(); n != c.n {
			t.Errorf("%v: Collect = %d, want %d", c.l, n, c.n)
		}
		x.is(c.left...)
		if n := x.collect(); n != 0 {
			t.Errorf("%v: Collect once more = %d", c.l, n)
		}
	}
}

// TestEveryLayout: P10.2 to P10.5, each layout of few pages, each call with each number about the edges.
func TestEveryLayout(t *testing.T) {
	for pages := 1; pages <= 5; pages++ {
		g := arena(t, pages, 1)
		into := unlike(t, g)
		for _, l := range layouts(pages) {
			does := func(call func(x *lab)) {
				t.Helper()
				call(in(t, g, into, l))
			}
			does(func(x *lab) { x.collect() })
			for i := -1; i <= pages+1; i++ {
				for j := -1; j <= pages+1; j++ {
					does(func(x *lab) { x.alloc(i, j) })
					does(func(x *lab) { x.free(i, j) })
					does(func(x *lab) { x.mark(i, j) })
				}
			}
		}
	}
}

// TestLengths: P10.1 to P10.3, runs of each length that there can be: the bin of each.
func TestLengths(t *testing.T) {
	g := arena(t, 256, 1)
	into := unlike(t, g)
	x := in(t, g, into, layout{f(256)})
	for n := 1; n < 256; n++ {
		x.had(n, 1, 0) // what is left is 256 - n pages
		x.is(u(n), f(256-n))
		x.free(0, n)
	}
	for n := 1; n < 255; n++ {
		x.had(256-n-1, 1, 0)
		x.had(1, 1, 255-n)
		x.free(0, 255-n) // free are 255 - n pages, and n
		x.mark(255-n, 1)
		x.collect()
		x.is(f(256))
	}
	x.had(256, 1, 0)
	x.none(1, 1)
	x.free(0, 256)
	x.none(257, 1)
}

// TestMultiples: P10.2, each length at each multiple, in an arena with free runs at all kinds of places.
func TestMultiples(t *testing.T) {
	l := layout{f(3), u(1), f(9), d(2), f(1), u(1), f(12), s(0, 3), f(2), u(3), f(12), u(1), f(7)}
	g := arena(t, l.pages(), 2)
	into := unlike(t, g)
	for k := range 15 {
		for a := range l.pages() + 3 {
			in(t, g, into, l).alloc(k, a)
		}
	}
}

// orders hands on each row of the numbers below n.
func orders(n int, yield func(row []int)) {
	row := make([]int, 0, n)
	var grow func()
	grow = func() {
		if len(row) == n {
			yield(row)
		}
		for i := range n {
			if !slices.Contains(row, i) {
				row = append(row, i)
				grow()
				row = row[:len(row)-1]
			}
		}
	}
	grow()
}

// TestFreedInAnyRow: P10.5, used, deferred and slabs' runs, freed in any row, some of them by being marked and collected: all pages are one free run.
func TestFreedInAnyRow(t *testing.T) {
	for _, l := range []layout{
		{u(1), u(1), u(1), u(1), u(1)},
		{u(2), d(1), u(3), s(2, 5), u(1)},
		{d(3), f(1), s(0, 0), f(2), u(2), d(2)},
		{u(1), f(3), u(2), f(1), u(1), f(1), d(1)},
	} {
		g := arena(t, l.pages(), 1)
		into := unlike(t, g)
		for marks := range 4 {
			orders(len(l), func(row []int) {
				x := in(t, g, into, l)
				for n, i := range row {
					if l[i].isFree() {
						continue
					}
					if marks > 0 && n%marks == 0 && x.mark(l.first(i), l[i].len) {
						continue
					}
					x.free(l.first(i), l[i].len)
				}
				x.collect()
				x.is(f(g.Pages()))
			})
		}
	}
}

// wander does calls of all kinds, by a short rule, and then frees all.
func (x *lab) wander(seed, calls int) {
	x.t.Helper()
	c := chance(seed)
	for i := range calls {
		k, a := 1+c.below(1+c.below(x.g.Pages())), 1
		if c.below(3) == 0 {
			a = 1 + c.below(16)
		}
		at := c.below(len(x.l))
		r, page := x.l[at], x.l.first(at)
		switch what := c.below(12); {
		case what < 5 && (i/40+seed)%2 == 0, what < 2: // now more is had, now more is freed
			x.alloc(k, a)
		case what < 7:
			x.free(page, r.len)
		case what < 9:
			x.mark(page, r.len)
		case what == 9:
			x.free(c.below(x.g.Pages()), k)
		case what == 10 && r.kind == used && r.len == 1:
			x.l[at] = s(c.below(4), c.below(x.g.Threads())) // as chapter 11's Make does
			store(x.m, x.g.Page(page), x.l[at].word())
		case c.below(8) == 0:
			x.collect()
		}
	}
	x.collect()
	for len(x.l) > 1 || !x.l[0].isFree() {
		at := c.below(len(x.l))
		x.free(x.l.first(at), x.l[at].len)
	}
	x.is(f(x.g.Pages()))
}

// TestLongRows: P10.2 to P10.5, calls of all kinds, in rows by a short rule, in arenas small and great.
func TestLongRows(t *testing.T) {
	for _, c := range []struct{ pages, threads, seeds, calls int }{
		{1, 1, 4, 100}, {2, 1, 10, 200}, {9, 2, 40, 400}, {33, 3, 30, 600}, {256, 4, 4, 1500}, {256, 64, 1, 60},
	} {
		g := arena(t, c.pages, c.threads)
		into := unlike(t, g)
		for seed := range c.seeds {
			in(t, g, into, layout{f(c.pages)}).wander(seed, c.calls)
		}
	}
}

// TestAnyThread: P10.1 to P10.4, what is done does not hang on whose port it is done by, nor is anything kept from call to call.
func TestAnyThread(t *testing.T) {
	g := arena(t, 9, 2)
	var ms []*mem.Memory
	for _, self := range []int{0, 1, 63, 64, -1, math.MaxInt, math.MinInt} {
		m := zeros(t, g)
		p := port.New(m, self)
		runs.Init(p, g)
		for _, k := range []int{2, 1, 3, 1} {
			runs.Alloc(p, g, k, 1)
		}
		runs.Mark(p, g, 3, 3)
		runs.Free(p, g, 2, 1)
		runs.Collect(p, g)
		isLaid(t, "a thread's", m, zeros(t, g), g, layout{u(2), f(4), u(1), f(2)})
		ms = append(ms, m)
	}
	for _, m := range ms {
		if !mem.Same(m, ms[0]) {
			t.Error("two memories are not the same")
		}
	}
}

// TestNoPages: P10.1 to P10.4, R1, a geometry of no pages: no access, and zeros.
func TestNoPages(t *testing.T) {
	m := unlike(t, arena(t, 2, 1))
	was, p := m.Copy(), watched(m, 0)
	var g geom.Geom
	runs.Init(p, g)
	for k := -2; k < 4; k++ {
		for a := -2; a < 4; a++ {
			if page, ok := runs.Alloc(p, g, k, a); page != 0 || ok || runs.Free(p, g, k, a) || runs.Mark(p, g, k, a) {
				t.Errorf("no pages: %d, %d", k, a)
			}
		}
	}
	if runs.Collect(p, g) != 0 || len(p.seen) != 0 || !mem.Same(m, was) {
		t.Errorf("no pages: the accesses %v", p.seen)
	}
}

// allCalls does each call with numbers of all kinds.
func allCalls(p api.Port, g geom.Geom) {
	runs.Init(p, g)
	for _, n := range []int{0, 1, 2, 7, 8, 9, 255, 256, 1023, -1, math.MaxInt, math.MinInt} {
		for _, o := range []int{0, 1, 2, 7, 8, 9, 255, 256, 1023, -1, math.MaxInt, math.MinInt} {
			runs.Alloc(p, g, n, o)
			runs.Free(p, g, n, o)
			runs.Mark(p, g, n, o)
		}
	}
	runs.Collect(p, g)
}

// TestNoMemory: R1, a memory without words, or with too few, or none: each call ends, and nothing is had of no words.
func TestNoMemory(t *testing.T) {
	g := arena(t, 8, 2)
	empty, _ := mem.New(0, 0)
	for _, m := range []*mem.Memory{nil, empty} {
		p := port.New(m, 0)
		allCalls(p, g)
		if page, ok := runs.Alloc(p, g, 1, 1); page != 0 || ok || runs.Free(p, g, 0, 1) || runs.Mark(p, g, 0, 1) || runs.Collect(p, g) != 0 {
			t.Error("a run is had of no words")
		}
	}
	for words := range g.Page(8) {
		m, _ := mem.New(words, 0)
		allCalls(port.New(m, 0), g)
	}
}

// TestAnyMemory: R1, memories whose words are no runs': each call ends, and none panics.
func TestAnyMemory(t *testing.T) {
	g := arena(t, 8, 1)
	c := chance(1)
	for range 2000 {
		m := zeros(t, g)
		for page := range 8 {
			store(m, g.Page(page), packed(c.below(8), c.below(12)))
			if c.below(4) == 0 {
				store(m, g.Page(page), uint64(c.below(math.MaxInt))<<1)
			}
		}
		allCalls(port.New(m, 0), g)
	}
	for kind := range 8 {
		for _, n := range []int{0, 1, 2, 8, 9, 1023} {
			m := zeros(t, g)
			for page := range 8 {
				store(m, g.Page(page), packed(kind, n))
			}
			allCalls(port.New(m, 0), g)
		}
	}
}

// TestNoRuns: P10.2 to P10.4, words that tell of no run, as it has no pages, or more than there are from there on, or as there is no such kind: nothing is had, and nothing is changed.
func TestNoRuns(t *testing.T) {
	g := arena(t, 8, 1)
	for kind := range 8 {
		for page := range 8 {
			for n := range 1 << 10 {
				isKind := kind == free || kind == slab || kind == used || kind == later
				if isKind && n >= 1 && n <= 8-page {
					continue
				}
				m := zeros(t, g)
				store(m, g.Page(page), packed(kind, n))
				p := watched(m, 0)
				if _, ok := runs.Alloc(p, g, 1, 1); ok || runs.Free(p, g, page, n) || runs.Free(p, g, page, 1) || runs.Collect(p, g) != 0 || p.changes() {
					t.Fatalf("page %d of kind %d, and %d pages: the accesses %v", page, kind, n, p.seen)
				}
			}
		}
	}
}
