package geom_test

import (
	"math"
	"testing"

	"quillet/api"
	"quillet/geom"
)

// The tests name the promises of shared/doc/02-geom.md that they hold the package to.

// region is a row of the chapter's table: the sizes of what its words are told by, the last one fastest, and how to ask for a word. from is the lowest number that tells one.
type region struct {
	name  string
	sizes []int
	from  int
	at    func(g geom.Geom, n []int) int
}

// nodesOf is M, as the chapter says it.
func nodesOf(pages, threads int) int {
	return threads*4*(pages+1) + threads*(2*threads+3)
}

// table is the chapter's one, of an arena of so many pages and threads.
func table(n, t int) []region {
	m := nodesOf(n, t)
	return []region{
		{"Lock", nil, 0, func(g geom.Geom, _ []int) int { return g.Lock() }},
		{"Epoch", nil, 0, func(g geom.Geom, _ []int) int { return g.Epoch() }},
		{"Count", []int{5}, 0, func(g geom.Geom, n []int) int { return g.Count(n[0]) }},
		{"Bin", []int{9}, 0, func(g geom.Geom, n []int) int { return g.Bin(n[0]) }},
		{"Pool", nil, 0, func(g geom.Geom, _ []int) int { return g.Pool() }},
		{"Adds", []int{4}, 0, func(g geom.Geom, n []int) int { return g.Adds(n[0]) }},
		{"Serial", []int{t}, 0, func(g geom.Geom, n []int) int { return g.Serial(n[0]) }},
		{"Page", []int{n}, 0, func(g geom.Geom, n []int) int { return g.Page(n[0]) }},
		{"Bits", []int{n}, 0, func(g geom.Geom, n []int) int { return g.Bits(n[0]) }},
		{"Remote", []int{n}, 0, func(g geom.Geom, n []int) int { return g.Remote(n[0]) }},
		{"Link", []int{8 * n}, 0, func(g geom.Geom, n []int) int { return g.Link(n[0]) }},
		{"State", []int{8 * n}, 0, func(g geom.Geom, n []int) int { return g.State(n[0]) }},
		{"Cache", []int{t, 4, 2}, 0, func(g geom.Geom, n []int) int { return g.Cache(n[0], n[1], n[2]) }},
		{"Head", []int{t, 4}, 0, func(g geom.Geom, n []int) int { return g.Head(n[0], n[1]) }},
		{"Hazard", []int{t, 2}, 0, func(g geom.Geom, n []int) int { return g.Hazard(n[0], n[1]) }},
		{"Gone", []int{t}, 0, func(g geom.Geom, n []int) int { return g.Gone(n[0]) }},
		{"Retired", []int{t, 2*t + 2}, 0, func(g geom.Geom, n []int) int { return g.Retired(n[0], n[1]) }},
		{"Next", []int{m}, 1, func(g geom.Geom, n []int) int { return g.Next(n[0]) }},
		{"Item", []int{m, 8}, 1, func(g geom.Geom, n []int) int { return g.Item(n[0], n[1]) }},
	}
}

// words are how many a region has.
func (r region) words() int {
	n := 1
	for _, s := range r.sizes {
		n *= s
	}
	return n
}

// lowest is the lowest number at a place: only nodes, which stand first, begin at another one than 0.
func (r region) lowest(place int) int {
	if place == 0 {
		return r.from
	}
	return 0
}

// first and last are the numbers that tell a region's first word, and its last one.
func (r region) first() []int {
	n := make([]int, len(r.sizes))
	for i := range n {
		n[i] = r.lowest(i)
	}
	return n
}

func (r region) last() []int {
	n := make([]int, len(r.sizes))
	for i, s := range r.sizes {
		n[i] = r.lowest(i) + s - 1
	}
	return n
}

// next goes on to the numbers of the next word.
func (r region) next(n []int) {
	for i := len(n) - 1; i >= 0; i-- {
		n[i]++
		if n[i] < r.lowest(i)+r.sizes[i] {
			return
		}
		n[i] = r.lowest(i)
	}
}

// made is a geometry that has to be one.
func made(t *testing.T, pages, threads int) geom.Geom {
	t.Helper()
	g, ok := geom.New(pages, threads)
	if !ok || g == (geom.Geom{}) {
		t.Fatalf("New(%d, %d): %v", pages, threads, ok)
	}
	return g
}

// some are arenas at the edges, and between.
func some() [][2]int {
	return [][2]int{
		{1, 1}, {1, 2}, {2, 1}, {2, 2}, {3, 2}, {7, 5}, {16, 3}, {64, 8}, {100, 33}, {255, 63},
		{1, api.MaxThreads}, {api.MaxPages, 1}, {api.MaxPages, api.MaxThreads},
	}
}

// TestExamples: P2.1, P2.2, the chapter's examples.
func TestExamples(t *testing.T) {
	g := made(t, 1, 1)
	if g.Nodes() != 13 {
		t.Errorf("Nodes: %d", g.Nodes())
	}
	for i, x := range []struct{ got, want int }{
		{g.Lock(), 0}, {g.Epoch(), 1}, {g.Count(4), 6}, {g.Bin(0), 7}, {g.Pool(), 16}, {g.Adds(3), 20}, {g.Serial(0), 21},
		{g.Page(0), 22}, {g.Bits(0), 23}, {g.Remote(0), 24}, {g.Link(7), 32}, {g.State(0), 33}, {g.Cache(0, 3, 1), 48},
		{g.Head(0, 0), 49}, {g.Hazard(0, 1), 54}, {g.Gone(0), 55}, {g.Retired(0, 3), 59}, {g.Next(1), 60}, {g.Item(13, 7), 176}, {g.Words(), 177},
		{g.Count(5), -1}, {g.Page(1), -1}, {g.Next(0), -1}, {g.Item(14, 0), -1},
	} {
		if x.got != x.want {
			t.Errorf("example %d: %d, want %d", i, x.got, x.want)
		}
	}
}

// TestNew: P2.1, P2.2, P2.3, of each arena that may be: how many there are, and where each region begins and ends.
func TestNew(t *testing.T) {
	for pages := 1; pages <= api.MaxPages; pages++ {
		for threads := 1; threads <= api.MaxThreads; threads++ {
			g := made(t, pages, threads)
			if g.Pages() != pages || g.Threads() != threads || g.Nodes() != nodesOf(pages, threads) {
				t.Fatalf("New(%d, %d): %d pages, %d threads, %d nodes", pages, threads, g.Pages(), g.Threads(), g.Nodes())
			}
			begin := 0
			for _, r := range table(pages, threads) {
				if got := r.at(g, r.first()); got != begin {
					t.Fatalf("New(%d, %d): %s%v at %d, want %d", pages, threads, r.name, r.first(), got, begin)
				}
				begin += r.words()
				if got := r.at(g, r.last()); got != begin-1 {
					t.Fatalf("New(%d, %d): %s%v at %d, want %d", pages, threads, r.name, r.last(), got, begin-1)
				}
			}
			if g.Words() != begin {
				t.Fatalf("New(%d, %d): %d words, want %d", pages, threads, g.Words(), begin)
			}
		}
	}
}

// TestCompared: P2.1, geometries can be compared by ==: they are the same just if their pages and threads are.
func TestCompared(t *testing.T) {
	had := map[geom.Geom][2]int{}
	for pages := 1; pages <= api.MaxPages; pages++ {
		for threads := 1; threads <= api.MaxThreads; threads++ {
			g := made(t, pages, threads)
			if g != made(t, pages, threads) {
				t.Fatalf("New(%d, %d): not the same again", pages, threads)
			}
			if other, ok := had[g]; ok {
				t.Fatalf("New(%d, %d): the same as of %v", pages, threads, other)
			}
			had[g] = [2]int{pages, threads}
		}
	}
}

// TestNone: P2.1, P2.2, of pages and threads that may not be: the zero geometry, of which nothing is told.
func TestNone(t *testing.T) {
	wrong := [][2]int{{0, 0}, {257, 65}, {0, 65}, {257, 0}, {-1, -1}}
	for _, p := range []int{0, 257, 258, 512, 1 << 16, 1<<32 + 1, -1, -256, math.MaxInt, math.MinInt} {
		wrong = append(wrong, [2]int{p, 1}, [2]int{p, 64})
	}
	for _, n := range []int{0, 65, 66, 128, 1 << 16, 1<<32 + 1, -1, -64, math.MaxInt, math.MinInt} {
		wrong = append(wrong, [2]int{1, n}, [2]int{256, n})
	}
	for _, x := range wrong {
		if g, ok := geom.New(x[0], x[1]); ok || g != (geom.Geom{}) {
			t.Errorf("New(%d, %d): %v, %v", x[0], x[1], g, ok)
		}
	}
}

// TestNoPages: P2.1, P2.2, everything of the geometry of no pages: 0 each, and nowhere.
func TestNoPages(t *testing.T) {
	var g geom.Geom
	if g.Pages() != 0 || g.Threads() != 0 || g.Nodes() != 0 || g.Words() != 0 {
		t.Errorf("%d pages, %d threads, %d nodes, %d words", g.Pages(), g.Threads(), g.Nodes(), g.Words())
	}
	for _, r := range table(1, 1) {
		for _, n := range []int{0, 1, 2, -1, math.MaxInt, math.MinInt} {
			all := make([]int, len(r.sizes))
			for i := range all {
				all[i] = n
			}
			if got := r.at(g, all); got != -1 {
				t.Errorf("%s%v: %d", r.name, all, got)
			}
		}
		if got := r.at(g, r.first()); got != -1 {
			t.Errorf("%s%v: %d", r.name, r.first(), got)
		}
	}
}

// TestEachWord: P2.2, P2.3, one word behind the other, from 0 on, to below Words: so unlike words stand at unlike numbers, and each number is one word's.
func TestEachWord(t *testing.T) {
	for _, x := range some() {
		g := made(t, x[0], x[1])
		at := 0
		for _, r := range table(x[0], x[1]) {
			n := r.first()
			for range r.words() {
				if got := r.at(g, n); got != at {
					t.Fatalf("%v: %s%v at %d, want %d", x, r.name, n, got, at)
				}
				at++
				r.next(n)
			}
		}
		if g.Words() != at {
			t.Errorf("%v: %d words, want %d", x, g.Words(), at)
		}
	}
}

// TestNoneOfItsRegion: P2.2, a number below or above its region's, each one in turn beside first or last ones: -1.
func TestNoneOfItsRegion(t *testing.T) {
	for _, x := range some() {
		g := made(t, x[0], x[1])
		for _, r := range table(x[0], x[1]) {
			for i, size := range r.sizes {
				low := r.lowest(i)
				for _, wrong := range []int{low - 1, low - 2, -1, -size, low + size, low + size + 1, 2*size + low, 1 << 32, math.MaxInt32, math.MaxInt, math.MinInt, math.MinInt + 1} {
					for _, n := range [][]int{r.first(), r.last()} {
						n[i] = wrong
						if got := r.at(g, n); got != -1 {
							t.Errorf("%v: %s%v at %d", x, r.name, n, got)
						}
					}
				}
			}
		}
	}
}
