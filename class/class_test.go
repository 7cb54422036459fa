package class_test

import (
	"math"
	"slices"
	"testing"

	"quillet/api"
	"quillet/class"
)

// The tests name the promises of shared/doc/06-class.md that they hold the package to.

// all are the classes of each size that one can have, written out by the chapter's words.
var all = []class.Class{
	{Size: 8, Align: 8, Blocks: 8},
	{Size: 16, Align: 16, Blocks: 4},
	{Size: 24, Align: 8, Blocks: 2},
	{Size: 32, Align: 32, Blocks: 2},
	{Size: 40, Align: 8, Blocks: 1},
	{Size: 48, Align: 16, Blocks: 1},
	{Size: 56, Align: 8, Blocks: 1},
	{Size: 64, Align: 64, Blocks: 1},
}

// begins has where blocks of each of the classes begin in a page.
var begins = [][]int{
	{0, 8, 16, 24, 32, 40, 48, 56},
	{0, 16, 32, 48},
	{0, 24},
	{0, 32},
}

// far are numbers at the edges of their kind, and where sums and products of sizes wrap round.
var far = []int{
	math.MinInt, math.MinInt + 1, math.MinInt + 8, math.MinInt + 63, math.MinInt + 64, -1 << 40, -1 << 32,
	1 << 16, 1 << 32, 1<<32 + 8, 1 << 40, 1 << 62, 1<<62 + 8, math.MaxInt - 64, math.MaxInt - 63, math.MaxInt - 7, math.MaxInt - 1, math.MaxInt,
}

// numbers are all from low to high, and those far away.
func numbers(low, high int) []int {
	var l []int
	for n := low; n <= high; n++ {
		l = append(l, n)
	}
	return append(l, far...)
}

// ofSize is the class of a size, and whether there is one.
func ofSize(size int) (class.Class, bool) {
	for _, c := range all {
		if c.Size == size {
			return c, true
		}
	}
	return class.Class{}, false
}

// TestExamples: P6.1 to P6.3, the chapter's examples.
func TestExamples(t *testing.T) {
	if got, want := class.Table(), [api.Classes]class.Class{{8, 8, 8}, {16, 16, 4}, {24, 8, 2}, {32, 32, 2}}; got != want {
		t.Errorf("Table: %v, want %v", got, want)
	}
	for _, x := range [][3]int{{1, 1, 0}, {9, 1, 1}, {17, 8, 2}, {17, 16, 3}, {33, 1, -1}, {8, 64, -1}, {0, 1, -1}, {8, 3, -1}} {
		if got := class.Of(x[0], x[1]); got != x[2] {
			t.Errorf("Of(%d, %d) = %d, want %d", x[0], x[1], got, x[2])
		}
	}
	for _, x := range [][2]int{{1, 1}, {64, 1}, {65, 2}, {0, 0}} {
		if got := class.Pages(x[0]); got != x[1] {
			t.Errorf("Pages(%d) = %d, want %d", x[0], got, x[1])
		}
	}
	for _, x := range []struct {
		class, offset, want int
		ok                  bool
	}{{2, 24, 1, true}, {2, 48, 0, false}, {1, 8, 0, false}} {
		if got, ok := class.Block(x.class, x.offset); got != x.want || ok != x.ok {
			t.Errorf("Block(%d, %d) = %d, %v, want %d, %v", x.class, x.offset, got, ok, x.want, x.ok)
		}
	}
}

// TestMakeOfOne: P6.1, each size alone: those that are no multiples of 8, below 8 and above 64 are left out.
func TestMakeOfOne(t *testing.T) {
	for _, size := range numbers(-200, 600) {
		var want []class.Class
		if c, ok := ofSize(size); ok {
			want = append(want, c)
		}
		if got := class.Make(size); !slices.Equal(got, want) {
			t.Errorf("Make(%d) = %v, want %v", size, got, want)
		}
	}
}

// TestMakeOfRows: P6.1, rows of sizes: their classes stand in the same row, and others leave no gap.
func TestMakeOfRows(t *testing.T) {
	for _, x := range []struct {
		sizes []int
		want  []class.Class
	}{
		{[]int{8, 16, 24, 32, 40, 48, 56, 64}, all},
		{[]int{64, 8, 48}, []class.Class{all[7], all[0], all[5]}},
		{[]int{40, 32, 24}, []class.Class{all[4], all[3], all[2]}},
		{[]int{16, 16}, []class.Class{all[1], all[1]}},
		{[]int{56, 8, 56, 8, 56}, []class.Class{all[6], all[0], all[6], all[0], all[6]}},
		{[]int{0, 16, 12, 72, 8, -8}, []class.Class{all[1], all[0]}},
		{[]int{7, 8, 9, 63, 64, 65}, []class.Class{all[0], all[7]}},
		{[]int{128, 80, 4, 1, -16, 0}, nil},
	} {
		if got := class.Make(x.sizes...); !slices.Equal(got, x.want) {
			t.Errorf("Make(%v) = %v, want %v", x.sizes, got, x.want)
		}
	}
}

// TestMakeOfNone: P6.1, no sizes, no classes; a list without elements is handed in as nil, and as an empty one.
func TestMakeOfNone(t *testing.T) {
	for _, got := range [][]class.Class{class.Make(), class.Make([]int(nil)...), class.Make([]int{}...)} {
		if len(got) != 0 {
			t.Errorf("Make of none: %v", got)
		}
	}
}

// TestMakeOfMany: P6.1, a long row.
func TestMakeOfMany(t *testing.T) {
	var sizes []int
	var want []class.Class
	for i := range 5000 {
		size := i*37%90 - 10
		sizes = append(sizes, size)
		if c, ok := ofSize(size); ok {
			want = append(want, c)
		}
	}
	if got := class.Make(sizes...); !slices.Equal(got, want) || len(got) < 100 {
		t.Errorf("Make of 5000 sizes: %d classes, want %d", len(got), len(want))
	}
}

// TestMakeLeavesSizes: P6.1, R4: what is handed in, its spare room too, stays as it is, and what is answered is memory of its own.
func TestMakeLeavesSizes(t *testing.T) {
	room := []int{3, 64, 8, 5, 24, 11, 12, 13}
	first := class.Make(room[:4]...)
	if !slices.Equal(room, []int{3, 64, 8, 5, 24, 11, 12, 13}) {
		t.Errorf("Make changed what was handed in: %v", room)
	}
	room[1] = 16
	if !slices.Equal(first, []class.Class{all[7], all[0]}) {
		t.Errorf("Make kept what was handed in: %v", first)
	}
	second := class.Make(64, 8)
	clear(first)
	if !slices.Equal(second, []class.Class{all[7], all[0]}) {
		t.Errorf("two answers of Make share memory: %v", second)
	}
}

// TestTable: P6.1, the classes are those of the sizes 8, 16, 24, 32; what was told is not what is told next.
func TestTable(t *testing.T) {
	table := class.Table()
	if !slices.Equal(table[:], all[:4]) || !slices.Equal(table[:], class.Make(8, 16, 24, 32)) {
		t.Errorf("Table: %v", table)
	}
	clear(table[:])
	if again := class.Table(); !slices.Equal(again[:], all[:4]) {
		t.Errorf("Table, once more: %v", again)
	}
	if class.Of(32, 32) != 3 {
		t.Errorf("Of, when what Table told was changed: %d", class.Of(32, 32))
	}
}

// least is the class that Of has to tell, by the chapter's words.
func least(size, align int) int {
	if size < 1 || !slices.Contains([]int{1, 2, 4, 8, 16, 32}, align) {
		return -1 // a greater power of 2 is an alignment, but no class has it
	}
	for n, c := range all[:api.Classes] {
		if size <= c.Size && align <= c.Align {
			return n
		}
	}
	return -1
}

// TestOf: P6.2, each size and each alignment from below 0 to beyond the greatest class, and far away; those that are no power of 2 among them.
func TestOf(t *testing.T) {
	for _, size := range numbers(-70, 140) {
		for _, align := range numbers(-70, 140) {
			if got, want := class.Of(size, align), least(size, align); got != want {
				t.Errorf("Of(%d, %d) = %d, want %d", size, align, got, want)
			}
		}
	}
}

// TestOfEdges: P6.2, where one class ends and the next begins, written out.
func TestOfEdges(t *testing.T) {
	for _, x := range [][3]int{
		{8, 8, 0}, {9, 8, 1}, {16, 8, 1}, {17, 1, 2}, {24, 8, 2}, {25, 8, 3}, {32, 8, 3}, {33, 8, -1},
		{1, 8, 0}, {1, 16, 1}, {1, 32, 3}, {1, 64, -1}, {16, 16, 1}, {24, 16, 3}, {32, 32, 3}, {33, 32, -1}, {32, 64, -1},
		{8, 0, -1}, {8, -1, -1}, {8, -8, -1}, {8, 5, -1}, {8, 6, -1}, {8, 7, -1}, {8, 12, -1}, {8, 24, -1},
		{-1, 8, -1}, {0, 0, -1}, {math.MinInt, 8, -1}, {8, math.MinInt, -1}, {math.MaxInt, 1, -1}, {1, math.MaxInt, -1},
	} {
		if got := class.Of(x[0], x[1]); got != x[2] {
			t.Errorf("Of(%d, %d) = %d, want %d", x[0], x[1], got, x[2])
		}
	}
}

// TestPagesEdges: P6.2, the edges, written out.
func TestPagesEdges(t *testing.T) {
	for _, x := range [][2]int{
		{math.MinInt, 0}, {-65, 0}, {-64, 0}, {-63, 0}, {-1, 0}, {0, 0},
		{1, 1}, {2, 1}, {63, 1}, {64, 1}, {65, 2}, {127, 2}, {128, 2}, {129, 3},
		{64 * api.MaxPages, 256}, {64*api.MaxPages + 1, 257},
		{math.MaxInt - 63, math.MaxInt / 64}, {math.MaxInt - 62, math.MaxInt/64 + 1}, {math.MaxInt, math.MaxInt/64 + 1},
	} {
		if got := class.Pages(x[0]); got != x[1] {
			t.Errorf("Pages(%d) = %d, want %d", x[0], got, x[1])
		}
	}
}

// TestPages: P6.2, the pages have the size's bytes or more, and one page fewer has not.
func TestPages(t *testing.T) {
	for _, size := range numbers(-200, 64*api.MaxPages+200) {
		n := class.Pages(size)
		if size < 1 {
			if n != 0 {
				t.Errorf("Pages(%d) = %d", size, n)
			}
			continue
		}
		if n < 1 || uint64(n)*64 < uint64(size) || uint64(n-1)*64 >= uint64(size) {
			t.Errorf("Pages(%d) = %d", size, n)
		}
	}
}

// TestBlock: P6.3, each class, and numbers that are none, at each offset of a page and beyond it.
func TestBlock(t *testing.T) {
	for _, n := range numbers(-9, 70) {
		for _, offset := range numbers(-140, 200) {
			want := -1
			if n >= 0 && n < len(begins) {
				want = slices.Index(begins[n], offset)
			}
			if got, ok := class.Block(n, offset); got != max(want, 0) || ok != (want >= 0) {
				t.Errorf("Block(%d, %d) = %d, %v, want %d", n, offset, got, ok, want)
			}
		}
	}
}

// TestBlocksOfEachSize: P6.4, of each class that can be made: blocks side by side fill the page as far as they can, each at a multiple of the alignment, which is the greatest one.
func TestBlocksOfEachSize(t *testing.T) {
	made := class.Make(8, 16, 24, 32, 40, 48, 56, 64)
	if len(made) != 8 {
		t.Fatalf("Make of all sizes: %v", made)
	}
	for _, c := range made {
		if c.Blocks*c.Size > api.Page || (c.Blocks+1)*c.Size <= api.Page {
			t.Errorf("%v: not as many blocks as lie in a page", c)
		}
		for i := range c.Blocks {
			if i*c.Size%c.Align != 0 {
				t.Errorf("%v: block %d is not aligned", c, i)
			}
		}
		greatest := 1
		for c.Size%(2*greatest) == 0 && api.Page%(2*greatest) == 0 {
			greatest *= 2
		}
		if c.Align != greatest {
			t.Errorf("%v: alignment %d is the greatest", c, greatest)
		}
	}
}

// TestBlocksOfPage: P6.4, what Block tells of a page's offsets are the blocks of the table, by their numbers, side by side from the page's beginning on.
func TestBlocksOfPage(t *testing.T) {
	for n, c := range class.Table() {
		next := 0
		for offset := range api.Page {
			block, ok := class.Block(n, offset)
			if !ok {
				continue
			}
			if block != next || offset != block*c.Size || offset%c.Align != 0 || offset+c.Size > api.Page {
				t.Errorf("class %d: block %d at %d", n, block, offset)
			}
			next++
		}
		if next != c.Blocks {
			t.Errorf("class %d: %d blocks, want %d", n, next, c.Blocks)
		}
	}
}

// TestOfIsEnough: P6.4, what Of tells is enough, and no lesser class is; where it tells none, none is.
func TestOfIsEnough(t *testing.T) {
	table := class.Table()
	enough := func(n, size, align int) bool {
		return size >= 1 && table[n].Size >= size && table[n].Align >= align
	}
	for _, size := range numbers(1, 140) {
		for align := 1; align > 0; align *= 2 { // till it wraps round
			got := class.Of(size, align)
			lesser := got
			if got < 0 {
				lesser = len(table)
			} else if got >= len(table) || !enough(got, size, align) {
				t.Errorf("Of(%d, %d) = %d is not enough", size, align, got)
			}
			for n := range min(lesser, len(table)) {
				if enough(n, size, align) {
					t.Errorf("Of(%d, %d) = %d, but %d is enough", size, align, got, n)
				}
			}
		}
	}
}
