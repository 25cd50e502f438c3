package quota

import (
	"math/bits"

	"suffrage/api"
)

// product is a natural number of two words: the high one, and the low one.
type product [2]uint64

// multiply returns a * b. Neither is negative.
func multiply(a, b int) product {
	high, low := bits.Mul64(uint64(a), uint64(b))
	return product{high, low}
}

// plus returns p + n. The sum has no more than two words, and n is not negative.
func (p product) plus(n int) product {
	low, carry := bits.Add64(p[1], uint64(n), 0)
	return product{p[0] + carry, low}
}

// over returns p / d, rounded down, or ErrGreat if that is no valid fixed-point number. The divisor is positive.
func (p product) over(d int) (int, api.Errno) {
	high, low, divisor := p[0], p[1], uint64(d)
	if high >= divisor { // then the quotient has more than one word
		return 0, api.ErrGreat
	}
	quotient, _ := bits.Div64(high, low, divisor)
	if quotient > greatest {
		return 0, api.ErrGreat
	}
	return int(quotient), api.OK
}
