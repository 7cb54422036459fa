package alloc_test

import (
	"slices"
	"testing"

	"quillet/alloc"
	"quillet/api"
	"quillet/central"
	"quillet/geom"
	"quillet/mem"
	"quillet/port"
)

// The tests here hold P15.4 to calls one behind the other, by whatever threads: to what one says who knows intervals alone, and which pages have a live block.

// block is one that is live: its address, the size that was asked, how many bytes it has, and what each of these is.
type block struct {
	at, size, room int
	mark           byte
}

// in asks whether an address is one of the block's.
func (b block) in(at int) bool { return at >= b.at && at < b.at+b.room }

// heap are the blocks that are live.
type heap []block

// find is where the block stands that begins at an address; -1, if none does.
func (h heap) find(at int) int {
	return slices.IndexFunc(h, func(b block) bool { return b.at == at })
}

// fits holds a block to lying in an arena, and on no block that is live; what it does not is told.
func (h heap) fits(b block, pages int) string {
	switch {
	case b.at < 0 || b.at%8 != 0 || b.at+b.room > 64*pages:
		return "it does not lie in the arena, at a multiple of 8"
	case b.room < b.size:
		return "it has fewer bytes than were asked"
	case slices.ContainsFunc(h, func(o block) bool { return b.at < o.at+o.room && o.at < b.at+b.room }):
		return "it lies on another one"
	}
	return ""
}

// isFree asks whether no block that is live has a byte in a page.
func (h heap) isFree(page int) bool {
	return !slices.ContainsFunc(h, func(b block) bool { return b.at < 64*page+64 && b.at+b.room > 64*page })
}

// hasPages asks whether there are k pages in a row, at a multiple of a, in none of which is a byte of a live block.
func (h heap) hasPages(pages, k, a int) bool {
	for first := 0; first+k <= pages; first++ {
		n := 0
		for n < k && h.isFree(first+n) {
			n++
		}
		if n == k && first%a == 0 {
			return true
		}
	}
	return false
}

// hasBlock asks whether there is a block of a class: a page that is free, or one that has some, but not all, of its blocks of the class live.
func (h heap) hasBlock(pages, class int) bool {
	for page := range pages {
		n := 0
		for _, b := range h {
			if b.room == classSizes[class] && b.at/64 == page {
				n++
			}
		}
		if h.isFree(page) || n > 0 && n < 64/classSizes[class] {
			return true
		}
	}
	return false
}

// hasRoom asks whether there is room for what a size and an alignment ask for.
func (h heap) hasRoom(pages, size, align int) bool {
	if class := classOf(size, align); class >= 0 {
		return h.hasBlock(pages, class)
	}
	return h.hasPages(pages, pagesOf(size), max(1, align/64))
}

// marks puts what a client writes into a new block's bytes; marked asks whether it is there still.
func (b block) marks(m *mem.Memory) {
	for i := range b.room {
		put(m, b.at+i, b.mark)
	}
}

func (b block) marked(m *mem.Memory) bool {
	for i := range b.room {
		if m.Byte(b.at+i) != b.mark {
			return false
		}
	}
	return true
}

// isZero asks whether as many of a block's bytes as were asked are 0.
func (b block) isZero(m *mem.Memory) bool {
	for i := range b.size {
		if m.Byte(b.at+i) != 0 {
			return false
		}
	}
	return true
}

// unclean is what a memory has that it ought not to have when no block is live, and all has gone home: nothing is "".
func unclean(m *mem.Memory, g geom.Geom) string {
	for page := range g.Pages() {
		switch w := m.Word(g.Page(page)); {
		case page == 0 && w != uint64(api.Free|g.Pages()<<3):
			return "the pages are no free run"
		case page > 0 && w&7 != api.Tail && w&7 != api.Body:
			return "a page is not free"
		case m.Word(g.Bits(page))&0x7ff != 0:
			return "a page has a class"
		case m.Word(g.Remote(page)) != 0:
			return "a page has a remote stack"
		}
	}
	for at := g.State(0); at < g.Cache(0, 0, 0); at++ {
		if m.Word(at) != 0 {
			return "a grain has a state"
		}
	}
	for at := g.Cache(0, 0, 0); at < g.Head(0, 0); at++ {
		if m.Word(at) != 0 {
			return "a cache has a block"
		}
	}
	for at := g.Item(1, 0); at < g.Words(); at++ {
		if m.Word(at) != 0 {
			return "a node has a block"
		}
	}
	if m.Word(g.Lock()) != 0 {
		return "the lock is held"
	}
	return ""
}

// alone is an arena in which threads do calls one behind the other, each held to what it is to answer.
type alone struct {
	t         *testing.T
	g         geom.Geom
	m         *mem.Memory
	l         heap
	ports     []*watch
	had, none int // how often a block was told, and ErrNoMem
}

func newAlone(t *testing.T, pages, threads int) *alone {
	t.Helper()
	g := arena(t, pages, threads)
	x := &alone{t: t, g: g, m: fresh(t, g)}
	for self := range threads {
		x.ports = append(x.ports, &watch{Direct: port.New(x.m, self)})
	}
	return x
}

// begins is a port of a thread whose call begins.
func (x *alone) begins(self int) *watch {
	p := x.ports[self]
	p.Fresh()
	p.seen, p.told = nil, nil
	return p
}

// tells holds a call to having told what it answers, once.
func (x *alone) tells(p *watch, r api.Result) {
	x.t.Helper()
	if told, ok := p.Told(); !ok || told != r || len(p.told) != 1 {
		x.t.Fatalf("%+v is answered, and %+v told", r, p.told)
	}
}

// bears holds what is answered, when a block is asked for, to there being room, and the block to lying apart from all that are live.
func (x *alone) bears(p *watch, r api.Result, size, align int, clean bool) {
	x.t.Helper()
	x.tells(p, r)
	if !x.l.hasRoom(x.g.Pages(), size, align) {
		if r != (api.Result{E: api.ErrNoMem, Lin: p.Steps()}) {
			x.t.Fatalf("there is no room for %d, %d, and %+v is answered", size, align, r)
		}
		x.none++
		return
	}
	x.had++
	b := block{r.At, size, r.N, byte(x.had%255) + 1}
	if r != (api.Result{At: r.At, N: roomOf(size, align), Lin: p.Steps()}) || r.At%align != 0 {
		x.t.Fatalf("there is room for %d, %d, and %+v is answered", size, align, r)
	}
	if what := x.l.fits(b, x.g.Pages()); what != "" {
		x.t.Fatalf("%v: %s", b, what)
	}
	if clean && !b.isZero(x.m) {
		x.t.Fatalf("%v is not clean", b)
	}
	b.marks(x.m)
	x.l = append(x.l, b)
}

// frees holds a Free of an address to a block's being live there.
func (x *alone) frees(self, at int) {
	x.t.Helper()
	p := x.begins(self)
	r := alloc.Free(p, x.g, at)
	x.tells(p, r)
	i := x.l.find(at)
	if i < 0 {
		if r.E != api.ErrInvalid || r.At != 0 || r.N != 0 || p.Steps() > 1 || r.Lin != p.Steps() {
			x.t.Fatalf("Free(%d) = %+v, where none is live", at, r)
		}
		return
	}
	if b := x.l[i]; r.E != api.OK || r.N != b.size || r.Lin != 2 || !b.marked(x.m) {
		x.t.Fatalf("Free(%d) = %+v, of %v, marked %v", at, r, b, b.marked(x.m))
	}
	x.l = slices.Delete(x.l, i, i+1)
}

// does a call, by a short rule.
func (x *alone) does(next *chance, takes int) {
	x.t.Helper()
	p := x.begins(next.below(x.g.Threads()))
	size := 1 + next.below(40)
	if next.below(4) == 0 {
		size = 1 + next.below(64*x.g.Pages())
	}
	switch what := next.below(20); {
	case what < takes/2:
		x.bears(p, alloc.Malloc(p, x.g, size), size, 1, false)
	case what < takes*3/4:
		align := 1 << next.below(9)
		x.bears(p, alloc.Aligned(p, x.g, align, size), size, align, false)
	case what < takes:
		n := 1 + next.below(size)
		x.bears(p, alloc.Calloc(p, x.g, n, size/n), n*(size/n), 1, true)
	case what < 18 && len(x.l) > 0:
		x.frees(p.Self(), x.l[next.below(len(x.l))].at)
	case what == 18:
		x.frees(p.Self(), 8*next.below(8*x.g.Pages()+2)-8)
	case next.below(2) == 0:
		central.Flush(p, x.g)
	default:
		central.Trim(p, x.g)
	}
}

// TestAlone: P15.2 to P15.4, in many rows of calls by several threads: blocks that are live lie apart, in the arena, at their alignment, and keep what is written there; ErrNoMem is told just if there is no room, ErrBusy never; what is freed is had again.
func TestAlone(t *testing.T) {
	had, none := 0, 0
	for _, s := range []struct{ pages, threads, seeds, calls int }{{1, 1, 60, 200}, {1, 2, 60, 200}, {2, 2, 100, 200}, {3, 4, 80, 300}, {8, 3, 20, 800}, {20, 64, 1, 800}, {256, 2, 1, 600}} {
		for seed := range s.seeds {
			x := newAlone(t, s.pages, s.threads)
			next := chance(seed)
			for i := range s.calls {
				takes := 14
				if (i/40+seed)%3 == 0 {
					takes = 4
				}
				x.does(&next, takes)
			}
			had, none = had+x.had, none+x.none
			for i := 0; len(x.l) > 0; i++ {
				x.frees(i%s.threads, x.l[next.below(len(x.l))].at)
			}
			for i := range s.threads {
				central.Flush(x.begins(i), x.g)
			}
			if e := central.Trim(x.begins(next.below(s.threads)), x.g); e != api.OK {
				t.Fatalf("Trim = %d", e)
			}
			if what := unclean(x.m, x.g); what != "" {
				t.Fatal(what)
			}
			p := x.begins(0)
			x.bears(p, alloc.Malloc(p, x.g, 64*s.pages), 64*s.pages, 1, false)
		}
	}
	if had < 15000 || none < 5000 {
		t.Errorf("%d blocks are told, and %d times ErrNoMem", had, none)
	}
}
