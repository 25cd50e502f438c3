package ratio

import (
	"math"

	"suffrage/api"
	"suffrage/nat"
)

// isZero reports whether x is 0. It is valid but for its Neg.
func isZero(x api.Ratio) bool { return len(x.Num) == 0 }

// isOne reports whether a is 1.
func isOne(a []uint32) bool { return len(a) == 1 && a[0] == 1 }

// twin returns a copy of a.
func twin(a []uint32) []uint32 {
	out := make([]uint32, len(a))
	copy(out, a)
	return out
}

// sizeOf returns the absolute value of n.
func sizeOf(n int64) []uint32 {
	if n < 0 {
		return nat.Of(-uint64(n)) // as -n of -2^63 is no int64
	}
	return nat.Of(uint64(n))
}

// integer returns the number n, negated if neg is set.
func integer(neg bool, n []uint32) (int, api.Errno) {
	size, e := nat.Word(n)
	if e != api.OK {
		return 0, e
	}
	switch {
	case neg && size <= math.MaxInt64+1:
		return int(-size), api.OK // as int(size) of 2^63 is no int
	case size > math.MaxInt64:
		return 0, api.ErrGreat
	}
	return int(size), api.OK
}

// negated returns -x, with the memory of x.
func negated(x api.Ratio) api.Ratio {
	x.Neg = !x.Neg && !isZero(x)
	return x
}

// lowest returns x in lowest terms. Its numbers are valid, and Den is not 0.
func lowest(x api.Ratio) api.Ratio {
	divisor, _ := nat.Gcd(x.Num, x.Den)
	num, _, _ := nat.Div(x.Num, divisor)
	den, _, _ := nat.Div(x.Den, divisor)
	return api.Ratio{Neg: x.Neg && len(num) > 0, Num: num, Den: den}
}
