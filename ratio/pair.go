package ratio

import (
	"suffrage/api"
	"suffrage/nat"
)

// pair is the two numbers of an operation. The operations are its methods, which take both numbers to be valid.
type pair struct{ x, y api.Ratio }

// perform returns what an operation on a pair returns, or ErrBad if a number of the pair is not valid.
func perform[T any](p pair, operation func() (T, api.Errno)) (T, api.Errno) {
	if Check(p.x) != api.OK || Check(p.y) != api.OK {
		var none T
		return none, api.ErrBad
	}
	return operation()
}

// order compares the two numbers.
func (p pair) order() (int, api.Errno) {
	switch {
	case p.x.Neg && !p.y.Neg:
		return -1, api.OK
	case p.y.Neg && !p.x.Neg:
		return 1, api.OK
	case p.x.Neg:
		p.x, p.y = p.y, p.x // of two negative numbers, the one of greater size is less
		fallthrough
	default:
		a, b, e := p.crossed()
		if e != api.OK {
			return 0, e
		}
		return nat.Cmp(a, b)
	}
}

// sum adds the two numbers.
func (p pair) sum() (api.Ratio, api.Errno) {
	a, b, e := p.crossed()
	if e != api.OK {
		return api.Ratio{}, e
	}
	neg, num, e := signedSum(p.x.Neg, a, p.y.Neg, b)
	if e != api.OK {
		return api.Ratio{}, e
	}
	den, e := nat.Mul(p.x.Den, p.y.Den)
	if e != api.OK {
		return api.Ratio{}, e
	}
	return lowest(api.Ratio{Neg: neg, Num: num, Den: den}), api.OK
}

// difference takes the second number away from the first one.
func (p pair) difference() (api.Ratio, api.Errno) {
	return pair{p.x, negated(p.y)}.sum()
}

// product multiplies the two numbers.
func (p pair) product() (api.Ratio, api.Errno) {
	num, den, e := products(p.x.Num, p.y.Num, p.x.Den, p.y.Den)
	if e != api.OK {
		return api.Ratio{}, e
	}
	return lowest(api.Ratio{Neg: p.x.Neg != p.y.Neg, Num: num, Den: den}), api.OK
}

// quotient divides the first number by the second one.
func (p pair) quotient() (api.Ratio, api.Errno) {
	if isZero(p.y) {
		return api.Ratio{}, api.ErrZero
	}
	inverse := api.Ratio{Neg: p.y.Neg, Num: p.y.Den, Den: p.y.Num}
	return pair{p.x, inverse}.product()
}

// crossed returns the absolute values of the two numbers, both multiplied by both denominators.
func (p pair) crossed() (x, y []uint32, e api.Errno) {
	return products(p.x.Num, p.y.Den, p.y.Num, p.x.Den)
}

// products returns a * b and c * d.
func products(a, b, c, d []uint32) (first, second []uint32, e api.Errno) {
	first, e = nat.Mul(a, b)
	if e != api.OK {
		return nil, nil, e
	}
	second, e = nat.Mul(c, d)
	if e != api.OK {
		return nil, nil, e
	}
	return first, second, api.OK
}

// signedSum returns the sign and the absolute value of the sum of a and b, each of which is negated if the flag before it is set. The sign of 0 may be either.
func signedSum(negA bool, a []uint32, negB bool, b []uint32) (neg bool, size []uint32, e api.Errno) {
	order, e := nat.Cmp(a, b)
	switch {
	case e != api.OK:
		return false, nil, e
	case negA == negB:
		size, e = nat.Add(a, b)
		return negA, size, e
	case order < 0:
		a, b, negA = b, a, negB // the sum has the sign of the number of greater size
		fallthrough
	default:
		size, e = nat.Sub(a, b)
		return negA, size, e
	}
}
