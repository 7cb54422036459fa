package runs

import (
	"math"
	"math/bits"
	"testing"
)

// same holds log2 of a kind of whole numbers to what it is of all lengths that the kind has.
func same[N whole](t *testing.T, most int) {
	t.Helper()
	for n := range most + 1 {
		want := max(0, bits.Len(uint(n))-1)
		if got := log2(N(n)); got != want {
			t.Errorf("log2(%T(%d)) = %d, want %d", N(n), n, got, want)
		}
	}
}

// TestLog2: P10.1 to P10.4, the logarithm of a length, by a generic function: of each kind of whole numbers that it is for.
func TestLog2(t *testing.T) {
	same[int](t, 5000)
	same[int8](t, math.MaxInt8)
	same[int16](t, 5000)
	same[int32](t, 5000)
	same[int64](t, 5000)
	same[uint](t, 5000)
	same[uint8](t, math.MaxUint8)
	same[uint16](t, 5000)
	same[uint32](t, 5000)
	same[uint64](t, 5000)
	type pages int
	same[pages](t, 256)
}

// TestLog2Edges: P10.1, the greatest numbers, and those below 1, which have no logarithm.
func TestLog2Edges(t *testing.T) {
	for _, x := range []struct{ got, want int }{
		{log2(math.MaxInt), 62}, {log2[int64](1 << 62), 62}, {log2[int64](1<<62 - 1), 61},
		{log2[uint64](math.MaxUint64), 63}, {log2[uint64](1 << 63), 63}, {log2[uint64](1<<63 - 1), 62},
		{log2[uint8](255), 7}, {log2[int8](127), 6},
		{log2(0), 0}, {log2(-1), 0}, {log2(-256), 0}, {log2(math.MinInt), 0},
	} {
		if x.got != x.want {
			t.Errorf("log2: %d, want %d", x.got, x.want)
		}
	}
}

// TestLogToAnyBase: P10.1, what log2 stands on.
func TestLogToAnyBase(t *testing.T) {
	for base := 2; base < 12; base++ {
		power, want := 1, 0
		for n := 1; n < 3000; n++ {
			if n == power*base {
				power, want = n, want+1
			}
			if got := log(n, base); got != want {
				t.Errorf("log(%d, %d) = %d, want %d", n, base, got, want)
			}
		}
	}
}
