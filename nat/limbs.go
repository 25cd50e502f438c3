package nat

import (
	"cmp"
	"math/bits"
)

const (
	limbBits      = 32
	wordLimbs     = 2 // limbs of a uint64
	maxLimb       = 1<<limbBits - 1
	ten           = 10
	billion       = 1_000_000_000 // the greatest power of ten that is a limb
	billionDigits = 9
)

// word returns the number with the limbs high and low.
func word(high, low uint32) uint64 { return uint64(high)<<limbBits | uint64(low) }

// limbAt returns limb i of a; beyond its length all limbs are 0.
func limbAt(a []uint32, i int) uint32 {
	if i < len(a) {
		return a[i]
	}
	return 0
}

// trim cuts off the last limbs of a that are 0, so that it is valid, and the capacity behind its length.
func trim(a []uint32) []uint32 {
	n := len(a)
	for n > 0 && a[n-1] == 0 {
		n--
	}
	return a[:n:n]
}

// twin returns a copy of a that is filled up with zeros to size limbs.
func twin(a []uint32, size int) []uint32 {
	out := make([]uint32, size)
	copy(out, a)
	return out
}

// compare returns -1, 0 or 1 if a is less than, equal to or greater than b. Both are valid.
func compare(a, b []uint32) int {
	if len(a) != len(b) {
		return cmp.Compare(len(a), len(b))
	}
	for i := len(a) - 1; i >= 0; i-- {
		if a[i] != b[i] {
			return cmp.Compare(a[i], b[i])
		}
	}
	return 0
}

// add adds b to sum, which has at least as many limbs, and returns the carry out of it.
func add(sum, b []uint32) uint32 {
	carry := uint32(0)
	for i := range sum {
		sum[i], carry = bits.Add32(sum[i], limbAt(b, i), carry)
	}
	return carry
}

// subtract takes times * b away from rest, which has at least as many limbs as b, and returns what is borrowed for that: 0 if rest was at least times * b.
func subtract(rest, b []uint32, times uint32) uint32 {
	owed := uint64(0) // always less than 2^32 here, so that the next sum is less than 2^64
	for i := range rest {
		owed += uint64(limbAt(b, i)) * uint64(times)
		limb, borrow := bits.Sub32(rest[i], uint32(owed), 0)
		rest[i] = limb
		owed = owed>>limbBits + uint64(borrow)
	}
	return uint32(owed)
}

// multiply returns a * b with as many limbs as both have together.
func multiply(a, b []uint32) []uint32 {
	out := make([]uint32, len(a)+len(b))
	for i, limb := range a {
		addProduct(out[i:i+len(b)+1:i+len(b)+1], b, limb)
	}
	return out
}

// addProduct adds b * times to sum, which has one limb more than b, and there 0.
func addProduct(sum, b []uint32, times uint32) {
	carry := uint64(0)
	for i, limb := range b {
		carry += uint64(limb)*uint64(times) + uint64(sum[i])
		sum[i] = uint32(carry)
		carry >>= limbBits
	}
	sum[len(b)] = uint32(carry)
}

// divide returns the quotient and the remainder of a by b, which is not 0, by long division: one limb of the quotient after the other is guessed from the first limbs. Both numbers are shifted before, so that the first bit of b is 1, because a guess is then too great by 2 at most.
func divide(a, b []uint32) (q, r []uint32) {
	if len(a) < len(b) {
		return nil, twin(a, len(a))
	}
	shift := bits.LeadingZeros32(b[len(b)-1])
	rest, divisor := shiftedUp(a, shift), trim(shiftedUp(b, shift))
	size := len(divisor) + 1
	q = make([]uint32, len(rest)-len(divisor))
	for i := len(q) - 1; i >= 0; i-- {
		q[i] = divideOnce(rest[i:i+size:i+size], divisor)
	}
	shiftDown(rest, shift)
	return trim(q), trim(rest)
}

// divideOnce leaves in rest, which has one limb more than divisor, the remainder of their division, and returns the quotient, which is one limb.
func divideOnce(rest, divisor []uint32) uint32 {
	n := len(divisor)
	guess := uint32(min(word(rest[n], rest[n-1])/uint64(divisor[n-1]), maxLimb))
	for owed := subtract(rest, divisor, guess); owed > 0; owed -= add(rest, divisor) {
		guess--
	}
	return guess
}

// shiftedUp returns a * 2^shift with one limb more than a has. The shift is less than limbBits.
func shiftedUp(a []uint32, shift int) []uint32 {
	out := make([]uint32, len(a)+1)
	addProduct(out, a, 1<<shift)
	return out
}

// shiftDown divides a by 2^shift. The shift is less than limbBits.
func shiftDown(a []uint32, shift int) {
	for i := range a {
		a[i] = uint32(word(limbAt(a, i+1), a[i]) >> shift)
	}
}

// shorten divides a by a limb that is not 0 and returns the remainder.
func shorten(a []uint32, by uint32) uint32 {
	rest := uint32(0)
	for i := len(a) - 1; i >= 0; i-- {
		n := word(rest, a[i])
		a[i], rest = uint32(n/uint64(by)), uint32(n%uint64(by))
	}
	return rest
}

// lengthen returns a * times + more, in the memory of a if it has room there. Where a is valid and times is not 0, so is the result.
func lengthen(a []uint32, times, more uint32) []uint32 {
	for i, limb := range a {
		n := uint64(limb)*uint64(times) + uint64(more)
		a[i], more = uint32(n), uint32(n>>limbBits)
	}
	if more > 0 {
		a = append(a, more)
	}
	return a
}

// appendDigits appends the digits of a number below billion, the last one first, with all zeros.
func appendDigits(digits []byte, n uint32) []byte {
	for range billionDigits {
		digits = append(digits, byte('0'+n%ten))
		n /= ten
	}
	return digits
}

// isDecimal reports whether s is the decimal string of a natural number.
func isDecimal(s string) bool {
	for i := range len(s) {
		if s[i] < '0' || s[i] > '9' {
			return false
		}
	}
	return s == "0" || s != "" && s[0] != '0'
}
