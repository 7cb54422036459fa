package runs

// whole are the whole numbers.
type whole interface {
	~int | ~int8 | ~int16 | ~int32 | ~int64 | ~uint | ~uint8 | ~uint16 | ~uint32 | ~uint64
}

// log2 is the logarithm of n to the base 2, without its fraction; 0 of what is below 2.
func log2[N whole](n N) int { return log(n, 2) }

// log is the same to any base from 2 on.
func log[N whole](n, base N) int {
	l := 0
	for ; n >= base; n /= base {
		l++
	}
	return l
}
