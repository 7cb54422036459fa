package mem_test

import (
	"math"
	"testing"

	"quillet/api"
	"quillet/mem"
)

// The tests name the promises of shared/doc/03-mem.md that they hold the package to.

// The most words and bytes that a memory may have, as P3.1 says them.
const (
	mostWords = 2097152
	mostBytes = 1048576
)

// ofWords and ofBytes are the kinds by what they name; noKinds are some that are none.
var (
	ofWords = []uint8{api.Load, api.Store, api.CAS, api.Add}
	ofBytes = []uint8{api.Get, api.Put}
	noKinds = []uint8{0, 7, 8, 9, 64, 127, 128, 254, 255}
)

// made is a memory that has to be one.
func made(t *testing.T, words, bytes int) *mem.Memory {
	t.Helper()
	m, e := mem.New(words, bytes)
	if e != api.OK || m == nil {
		t.Fatalf("New(%d, %d): %v, error %d", words, bytes, m, e)
	}
	return m
}

// seen is what a memory has, by what may be asked of it.
type seen struct {
	words []uint64
	bytes []byte
}

func look(m *mem.Memory) seen {
	s := seen{make([]uint64, m.Words()), make([]byte, m.Bytes())}
	for i := range s.words {
		s.words[i] = m.Word(i)
	}
	for i := range s.bytes {
		s.bytes[i] = m.Byte(i)
	}
	return s
}

// holds asks whether a memory has just what it should have.
func holds(t *testing.T, what string, m *mem.Memory, want seen) {
	t.Helper()
	got := look(m)
	if len(got.words) != len(want.words) || len(got.bytes) != len(want.bytes) {
		t.Fatalf("%s: %d words and %d bytes, want %d and %d", what, len(got.words), len(got.bytes), len(want.words), len(want.bytes))
	}
	for i, w := range want.words {
		if got.words[i] != w {
			t.Fatalf("%s: word %d is %#x, want %#x", what, i, got.words[i], w)
		}
	}
	for i, b := range want.bytes {
		if got.bytes[i] != b {
			t.Fatalf("%s: byte %d is %#x, want %#x", what, i, got.bytes[i], b)
		}
	}
}

// filled is a memory in which no two words, and no two bytes, are the same, and none is 0 (up to 255 bytes).
func filled(t *testing.T, words, bytes int) *mem.Memory {
	t.Helper()
	m := made(t, words, bytes)
	for i := range words {
		tells(t, m, api.Access{Kind: api.Store, At: i, A: 0xf0e1d2c3b4a50000 + uint64(i)}, 0)
	}
	for i := range bytes {
		tells(t, m, api.Access{Kind: api.Put, At: i, A: uint64(i) + 1}, 0)
	}
	return m
}

// tells does an access that has to be done, and to tell this.
func tells(t *testing.T, m *mem.Memory, a api.Access, want uint64) {
	t.Helper()
	if got, ok := m.Do(a); !ok || got != want {
		t.Fatalf("Do(%+v): %#x, %v, want %#x", a, got, ok, want)
	}
}

// refuses does an access that is none: nothing is told, and nothing changed.
func refuses(t *testing.T, m *mem.Memory, a api.Access) {
	t.Helper()
	was := look(m)
	if got, ok := m.Do(a); ok || got != 0 {
		t.Fatalf("Do(%+v): %#x, %v", a, got, ok)
	}
	holds(t, "refused", m, was)
}

// noNumbers are some that are none of n.
func noNumbers(n int) []int {
	return []int{n, n + 1, 2*n + 1, -1, -2, -n - 1, mostBytes, mostWords, 1 << 32, math.MaxInt32, math.MinInt32, math.MaxInt, math.MinInt}
}

// TestExamples: P3.2, the chapter's examples.
func TestExamples(t *testing.T) {
	m := made(t, 4, 8)
	tells(t, m, api.Access{Kind: api.Store, At: 3, A: 7}, 0)
	tells(t, m, api.Access{Kind: api.CAS, At: 3, A: 7, B: 9}, 1)
	tells(t, m, api.Access{Kind: api.CAS, At: 3, A: 7, B: 8}, 0)
	tells(t, m, api.Access{Kind: api.Load, At: 3}, 9)
	tells(t, m, api.Access{Kind: api.Add, At: 3, A: math.MaxUint64}, 9)
	tells(t, m, api.Access{Kind: api.Load, At: 3}, 8)
	tells(t, m, api.Access{Kind: api.Put, At: 0, A: 0x1ff}, 0)
	tells(t, m, api.Access{Kind: api.Get, At: 0}, 255)
	refuses(t, m, api.Access{Kind: api.Load, At: -1})
	refuses(t, m, api.Access{Kind: 7})
}

// TestNew: P3.1, a memory of so many, up to the most of both, all of them 0.
func TestNew(t *testing.T) {
	for _, x := range [][2]int{
		{0, 0}, {1, 0}, {0, 1}, {1, 1}, {177, 64}, {3, 1000},
		{mostWords, 0}, {0, mostBytes}, {mostWords - 1, mostBytes - 1}, {mostWords, mostBytes},
	} {
		m := made(t, x[0], x[1])
		if m.Words() != x[0] || m.Bytes() != x[1] {
			t.Errorf("New(%d, %d): %d words, %d bytes", x[0], x[1], m.Words(), m.Bytes())
		}
		holds(t, "as new", m, seen{make([]uint64, x[0]), make([]byte, x[1])})
	}
}

// TestNewNone: P3.1, of sizes below 0 or above the most, each one beside ones that may be, and both: none, ErrArg.
func TestNewNone(t *testing.T) {
	var wrong [][2]int
	below := []int{-1, -2, -mostWords, -1 << 32, math.MinInt32, math.MinInt}
	above := []int{1 << 32, 1<<32 + 1, math.MaxInt32, math.MaxInt}
	for _, n := range append(append([]int{mostWords + 1, 2 * mostWords}, below...), above...) {
		wrong = append(wrong, [2]int{n, 0}, [2]int{n, 1}, [2]int{n, mostBytes}, [2]int{n, n})
	}
	for _, n := range append(append([]int{mostBytes + 1, mostWords}, below...), above...) {
		wrong = append(wrong, [2]int{0, n}, [2]int{1, n}, [2]int{mostWords, n}, [2]int{n, n})
	}
	wrong = append(wrong, [2]int{mostWords + 1, -1}, [2]int{-1, mostBytes + 1})
	for _, x := range wrong {
		if m, e := mem.New(x[0], x[1]); m != nil || e != api.ErrArg {
			t.Errorf("New(%d, %d): a memory %v, error %d", x[0], x[1], m != nil, e)
		}
	}
}

// TestLoad: P3.2, P3.4, Load tells the word, and does nothing.
func TestLoad(t *testing.T) {
	m := filled(t, 5, 5)
	was := look(m)
	for i, w := range was.words {
		tells(t, m, api.Access{Kind: api.Load, At: i, A: 1, B: 2}, w)
		holds(t, "loaded", m, was)
	}
}

// TestStore: P3.2, P3.4, the word that is named is A, whatever it was, and no other one; 0 is told.
func TestStore(t *testing.T) {
	for at := range 5 {
		m := filled(t, 5, 5)
		want := look(m)
		for _, v := range []uint64{7, 7, math.MaxUint64, 1 << 63, 0, 1} {
			tells(t, m, api.Access{Kind: api.Store, At: at, A: v, B: 99}, 0)
			want.words[at] = v
			holds(t, "stored", m, want)
		}
	}
}

// TestCAS: P3.2, P3.4, the word is B just if it was A, which is told by 1, else 0. All 64 bits count.
func TestCAS(t *testing.T) {
	for at := range 5 {
		m := filled(t, 5, 5)
		want := look(m)
		for _, v := range []uint64{math.MaxUint64, 0, 1, 1 << 63, 5} {
			for bit := range 64 {
				tells(t, m, api.Access{Kind: api.CAS, At: at, A: want.words[at] ^ 1<<bit, B: v}, 0)
			}
			holds(t, "not exchanged", m, want)
			tells(t, m, api.Access{Kind: api.CAS, At: at, A: want.words[at], B: v}, 1)
			want.words[at] = v
			holds(t, "exchanged", m, want)
			tells(t, m, api.Access{Kind: api.CAS, At: at, A: v, B: v}, 1)
			holds(t, "exchanged for itself", m, want)
		}
	}
}

// TestAdd: P3.2, P3.4, the word is A more, and what it was is told; sums that pass 2^64 wrap round.
func TestAdd(t *testing.T) {
	for at := range 5 {
		m := made(t, 5, 5)
		want := look(m)
		for _, x := range []struct{ more, sum uint64 }{
			{0, 0}, {3, 3}, {math.MaxUint64, 2}, {math.MaxUint64 - 2, math.MaxUint64},
			{1, 0}, {math.MaxUint64, math.MaxUint64}, {math.MaxUint64, math.MaxUint64 - 1},
			{0, math.MaxUint64 - 1}, {2, 0}, {1 << 63, 1 << 63}, {1 << 63, 0},
		} {
			tells(t, m, api.Access{Kind: api.Add, At: at, A: x.more, B: 99}, want.words[at])
			want.words[at] = x.sum
			holds(t, "added", m, want)
		}
	}
}

// TestGet: P3.2, P3.4, Get tells the byte, and does nothing.
func TestGet(t *testing.T) {
	m := filled(t, 5, 255)
	was := look(m)
	for i, b := range was.bytes {
		if b != byte(i+1) {
			t.Fatalf("byte %d is %d", i, b)
		}
		tells(t, m, api.Access{Kind: api.Get, At: i, A: 1, B: 2}, uint64(b))
	}
	holds(t, "got", m, was)
}

// TestPut: P3.2, P3.4, the byte that is named is the lowest 8 bits of A, and no other one; 0 is told.
func TestPut(t *testing.T) {
	for at := range 5 {
		m := filled(t, 5, 5)
		want := look(m)
		for _, x := range []struct {
			a uint64
			b byte
		}{
			{0, 0}, {1, 1}, {0x80, 0x80}, {0xff, 0xff}, {0x100, 0}, {0x1ff, 0xff}, {0xabcd, 0xcd},
			{1 << 63, 0}, {1<<63 + 6, 6}, {math.MaxUint64, 0xff}, {math.MaxUint64 - 1, 0xfe},
		} {
			tells(t, m, api.Access{Kind: api.Put, At: at, A: x.a, B: 99}, 0)
			want.bytes[at] = x.b
			holds(t, "put", m, want)
		}
	}
}

// TestFirstAndLast: P3.2, P3.4, of a memory of the most: the first and the last word and byte are there, and what is behind them is not.
func TestFirstAndLast(t *testing.T) {
	m := made(t, mostWords, mostBytes)
	want := look(m)
	for i, at := range []int{0, mostWords - 1} {
		tells(t, m, api.Access{Kind: api.Store, At: at, A: uint64(i) + 5}, 0)
		tells(t, m, api.Access{Kind: api.Add, At: at, A: 10}, uint64(i)+5)
		tells(t, m, api.Access{Kind: api.CAS, At: at, A: uint64(i) + 15, B: uint64(i) + 25}, 1)
		tells(t, m, api.Access{Kind: api.Load, At: at}, uint64(i)+25)
		want.words[at] = uint64(i) + 25
	}
	for i, at := range []int{0, mostBytes - 1} {
		tells(t, m, api.Access{Kind: api.Put, At: at, A: uint64(i) + 5}, 0)
		tells(t, m, api.Access{Kind: api.Get, At: at}, uint64(i)+5)
		want.bytes[at] = byte(i) + 5
	}
	for _, x := range []struct {
		kinds []uint8
		end   int
	}{{ofWords, mostWords}, {ofBytes, mostBytes}} {
		for _, kind := range x.kinds {
			for _, at := range []int{x.end, -1} {
				if got, ok := m.Do(api.Access{Kind: kind, At: at, B: 1}); ok || got != 0 {
					t.Errorf("kind %d at %d: %d, %v", kind, at, got, ok)
				}
			}
		}
	}
	holds(t, "of the most", m, want)
}

// TestNoNumber: P3.2, a number that is none of the words, or of the bytes: 0, false, nothing is changed. There are more words than bytes, and the other way round, so that neither is taken for the other.
func TestNoNumber(t *testing.T) {
	for _, x := range [][2]int{{1, 1}, {4, 8}, {8, 4}, {3, 0}, {0, 3}, {0, 0}} {
		m := filled(t, x[0], x[1])
		for _, at := range noNumbers(x[0]) {
			for _, kind := range ofWords {
				refuses(t, m, api.Access{Kind: kind, At: at, A: 0, B: 7})
			}
			if got := m.Word(at); got != 0 {
				t.Errorf("%v: Word(%d): %#x", x, at, got)
			}
		}
		for _, at := range noNumbers(x[1]) {
			for _, kind := range ofBytes {
				refuses(t, m, api.Access{Kind: kind, At: at, A: 7})
			}
			if got := m.Byte(at); got != 0 {
				t.Errorf("%v: Byte(%d): %#x", x, at, got)
			}
		}
	}
}

// TestNoKind: P3.2, each kind that is none, of a number that is one: 0, false, nothing is changed.
func TestNoKind(t *testing.T) {
	m := filled(t, 3, 3)
	for kind := range 256 {
		if kind >= api.Load && kind <= api.Put {
			continue
		}
		for _, at := range []int{0, 2, 3, -1} {
			refuses(t, m, api.Access{Kind: uint8(kind), At: at, A: m.Word(at), B: 7})
		}
	}
}

// TestWordsAlone: P3.1, P3.2, a memory of words alone asked for bytes, and the other way round.
func TestWordsAlone(t *testing.T) {
	words, bytes := filled(t, 3, 0), filled(t, 0, 3)
	for at := range 3 {
		for _, kind := range ofBytes {
			refuses(t, words, api.Access{Kind: kind, At: at, A: 7})
		}
		for _, kind := range ofWords {
			refuses(t, bytes, api.Access{Kind: kind, At: at, A: 0, B: 7})
		}
		if words.Byte(at) != 0 || bytes.Word(at) != 0 {
			t.Errorf("at %d: byte %d, word %d", at, words.Byte(at), bytes.Word(at))
		}
		if words.Word(at) == 0 || bytes.Byte(at) == 0 {
			t.Errorf("at %d: what is there is not told", at)
		}
	}
	if words.Bytes() != 0 || bytes.Words() != 0 {
		t.Errorf("%d bytes, %d words", words.Bytes(), bytes.Words())
	}
}

// TestWordAndByte: P3.2, they tell what is there, as Load and Get do, and change nothing.
func TestWordAndByte(t *testing.T) {
	m := filled(t, 4, 4)
	was := look(m)
	for at := range 4 {
		tells(t, m, api.Access{Kind: api.Load, At: at}, m.Word(at))
		tells(t, m, api.Access{Kind: api.Get, At: at}, uint64(m.Byte(at)))
	}
	holds(t, "looked at", m, was)
	tells(t, m, api.Access{Kind: api.Store, At: 2, A: math.MaxUint64}, 0)
	tells(t, m, api.Access{Kind: api.Put, At: 2, A: 255}, 0)
	if m.Word(2) != math.MaxUint64 || m.Byte(2) != 255 {
		t.Errorf("word %#x, byte %d", m.Word(2), m.Byte(2))
	}
}

// TestRow: P3.2, P3.4, a long row of accesses of all kinds, good and wrong ones, held access by access to what the chapter's table says.
func TestRow(t *testing.T) {
	const words, bytes = 5, 3
	m := made(t, words, bytes)
	want := look(m)
	next := uint64(1)
	upTo := func(n uint64) uint64 { // a row of its own, the same each time
		next = next*6364136223846793005 + 1442695040888963407
		return (next >> 33) % n
	}
	for range 20000 {
		a := api.Access{Kind: uint8(upTo(8)), At: int(upTo(words+3)) - 1, A: upTo(3), B: upTo(3)}
		if upTo(4) == 0 {
			a.A = -a.A
		}
		tell, done := want.does(a)
		if got, ok := m.Do(a); got != tell || ok != done {
			t.Fatalf("Do(%+v): %#x, %v, want %#x, %v", a, got, ok, tell, done)
		}
		holds(t, "in the row", m, want)
	}
}

// does is the chapter's table.
func (s seen) does(a api.Access) (uint64, bool) {
	ofByte := a.Kind == api.Get || a.Kind == api.Put
	if a.Kind < api.Load || a.Kind > api.Put || a.At < 0 || ofByte && a.At >= len(s.bytes) || !ofByte && a.At >= len(s.words) {
		return 0, false
	}
	if ofByte {
		if a.Kind == api.Get {
			return uint64(s.bytes[a.At]), true
		}
		s.bytes[a.At] = byte(a.A % 256)
		return 0, true
	}
	was := s.words[a.At]
	switch a.Kind {
	case api.Store:
		s.words[a.At] = a.A
		return 0, true
	case api.CAS:
		if was != a.A {
			return 0, true
		}
		s.words[a.At] = a.B
		return 1, true
	case api.Add:
		s.words[a.At] += a.A
	}
	return was, true
}

// TestCopy: P3.3, P3.4, a copy has the same, and from then on neither changes with the other one, whatever kind changes it.
func TestCopy(t *testing.T) {
	for _, x := range [][2]int{{4, 4}, {4, 0}, {0, 4}, {0, 0}, {1, 100}, {100, 1}} {
		m := filled(t, x[0], x[1])
		was := look(m)
		c := m.Copy()
		if c == nil || c == m || !mem.Same(m, c) || !mem.Same(c, m) {
			t.Fatalf("%v: not another one that has the same", x)
		}
		holds(t, "the copy", c, was)
		change(m)
		holds(t, "the copy, its memory changed", c, was)
		if x != [2]int{0, 0} && mem.Same(m, c) {
			t.Errorf("%v: the same, but changed", x)
		}
		d := c.Copy()
		change(c)
		holds(t, "the copy's copy", d, was)
		changed := look(m)
		holds(t, "changed likewise", c, changed)
		change(c)
		holds(t, "the memory, its copy changed", m, changed)
	}
}

// change changes each word and each byte that is there.
func change(m *mem.Memory) {
	for at := range m.Words() {
		switch at % 3 {
		case 0:
			m.Do(api.Access{Kind: api.Store, At: at, A: m.Word(at) + 1})
		case 1:
			m.Do(api.Access{Kind: api.CAS, At: at, A: m.Word(at), B: m.Word(at) + 1})
		case 2:
			m.Do(api.Access{Kind: api.Add, At: at, A: 1})
		}
	}
	for at := range m.Bytes() {
		m.Do(api.Access{Kind: api.Put, At: at, A: uint64(m.Byte(at)) + 1})
	}
}

// TestSame: P3.3, as many words and bytes, and the same ones: each single one counts, in both rows.
func TestSame(t *testing.T) {
	const words, bytes = 4, 6
	a := filled(t, words, bytes)
	if !mem.Same(a, a) || !mem.Same(a, filled(t, words, bytes)) || !mem.Same(made(t, words, bytes), made(t, words, bytes)) {
		t.Errorf("not the same")
	}
	both := func(what string, b *mem.Memory) {
		t.Helper()
		if mem.Same(a, b) || mem.Same(b, a) {
			t.Errorf("%s: the same", what)
		}
		if !mem.Same(b, b) {
			t.Errorf("%s: not the same as itself", what)
		}
	}
	for at := range words {
		for _, bit := range []int{0, 31, 32, 63} {
			b := a.Copy()
			tells(t, b, api.Access{Kind: api.Store, At: at, A: b.Word(at) ^ 1<<bit}, 0)
			both("another word", b)
		}
	}
	for at := range bytes {
		for _, bit := range []int{0, 7} {
			b := a.Copy()
			tells(t, b, api.Access{Kind: api.Put, At: at, A: uint64(b.Byte(at) ^ 1<<bit)}, 0)
			both("another byte", b)
		}
	}
	both("fewer words", filled(t, words-1, bytes))
	both("fewer bytes", filled(t, words, bytes-1))
	both("more words", filled(t, words+1, bytes))
	both("more bytes", filled(t, words, bytes+1))
	both("no words", filled(t, 0, bytes))
	both("no bytes", filled(t, words, 0))
	both("all 0", made(t, words, bytes))
	both("none", made(t, 0, 0))
	if mem.Same(made(t, 2, 3), made(t, 3, 2)) || mem.Same(made(t, 4, 0), made(t, 0, 4)) || mem.Same(made(t, 1, 0), made(t, 0, 8)) {
		t.Errorf("the same, but of other numbers")
	}
}

// TestNil: P3.3, and P3.2 of it: a nil memory has no words and bytes; its copy is nil.
func TestNil(t *testing.T) {
	var none *mem.Memory
	if none.Words() != 0 || none.Bytes() != 0 || none.Copy() != nil {
		t.Errorf("%d words, %d bytes, a copy %v", none.Words(), none.Bytes(), none.Copy() != nil)
	}
	for _, at := range append(noNumbers(0), 1) {
		if none.Word(at) != 0 || none.Byte(at) != 0 {
			t.Errorf("at %d: word %d, byte %d", at, none.Word(at), none.Byte(at))
		}
		for _, kinds := range [][]uint8{ofWords, ofBytes, noKinds} {
			for _, kind := range kinds {
				refuses(t, none, api.Access{Kind: kind, At: at, B: 1})
			}
		}
	}
	if !mem.Same(nil, nil) || !mem.Same(nil, made(t, 0, 0)) || !mem.Same(made(t, 0, 0), nil) {
		t.Errorf("nil is not the same as one that has none")
	}
	for _, x := range [][2]int{{1, 0}, {0, 1}, {4, 4}} {
		if m := made(t, x[0], x[1]); mem.Same(nil, m) || mem.Same(m, nil) {
			t.Errorf("%v: the same as nil", x)
		}
	}
}

// TestZeroValue: R1, a memory that was not made by New is one without words and bytes: it tells so, and does not panic.
func TestZeroValue(t *testing.T) {
	m := &mem.Memory{}
	for _, kinds := range [][]uint8{ofWords, ofBytes, noKinds} {
		for _, kind := range kinds {
			refuses(t, m, api.Access{Kind: kind})
		}
	}
	if m.Words() != 0 || m.Bytes() != 0 || m.Word(0) != 0 || m.Byte(0) != 0 || !mem.Same(m, m.Copy()) || !mem.Same(m, nil) {
		t.Errorf("the zero value has something")
	}
}
