package quota_test

import (
	"fmt"
	"math"
	"math/big"
	"math/rand"
	"slices"

	"suffrage/api"
	"suffrage/quota"
)

// The model follows the words of the document in rational numbers of any size: a fixed-point number is a number of billionths, and products and quotients are those of the numbers that it stands for. The limits are written out.

const (
	million = 1_000_000
	unit    = 1_000_000_000
	most    = million * unit
)

// answer is all that a call returns, in one form for all calls.
type answer struct {
	n     int
	ratio api.Ratio
	e     api.Errno
}

// equal reports whether all fields are equal. Nil and empty limbs are.
func (a answer) equal(b answer) bool {
	x, y := a.ratio, b.ratio
	return a.n == b.n && x.Neg == y.Neg && slices.Equal(x.Num, y.Num) && slices.Equal(x.Den, y.Den) && a.e == b.e
}

// isError reports whether the answer is this error and nothing beside it.
func (a answer) isError(e api.Errno) bool { return a.equal(answer{e: e}) }

func (a answer) twin() answer {
	a.ratio.Num, a.ratio.Den = slices.Clone(a.ratio.Num), slices.Clone(a.ratio.Den)
	return a
}

// String shows an answer in a report.
func (a answer) String() string {
	return fmt.Sprintf("(%d, %.200s, error %d)", a.n, fmt.Sprint(a.ratio), int(a.e))
}

func intAnswer(n int, e api.Errno) answer { return answer{n: n, e: e} }

func ratioAnswer(x api.Ratio, e api.Errno) answer { return answer{ratio: x, e: e} }

// The calls, each with its answer in one form.

func droop(votes, seats int) answer { return intAnswer(quota.Droop(votes, seats)) }

func hare(votes, seats int) answer { return ratioAnswer(quota.Hare(votes, seats)) }

func hagenbach(votes, seats int) answer { return ratioAnswer(quota.Hagenbach(votes, seats)) }

func down(a, b int) answer { return intAnswer(quota.Down(a, b)) }

func up(a, b int) answer { return intAnswer(quota.Up(a, b)) }

func share(a, b, c int) answer { return intAnswer(quota.Share(a, b, c)) }

func toRatio(n int) answer { return ratioAnswer(quota.Ratio(n)) }

func billionths(x api.Ratio) answer { return intAnswer(quota.Billionths(x)) }

// bigOf returns the number with these limbs.
func bigOf(limbs []uint32) *big.Int {
	n := new(big.Int)
	for _, limb := range slices.Backward(limbs) {
		n.Lsh(n, 32).Or(n, big.NewInt(int64(limb)))
	}
	return n
}

// limbsOf returns the limbs of n, which is not negative.
func limbsOf(n *big.Int) []uint32 {
	var limbs []uint32
	for rest := new(big.Int).Set(n); rest.Sign() > 0; rest.Rsh(rest, 32) {
		limbs = append(limbs, uint32(rest.Uint64()))
	}
	return limbs
}

// ratioOf returns x in the form of the program.
func ratioOf(x *big.Rat) api.Ratio {
	return api.Ratio{Neg: x.Sign() < 0, Num: limbsOf(new(big.Int).Abs(x.Num())), Den: limbsOf(x.Denom())}
}

// frac returns n / d.
func frac(n, d int) *big.Rat { return big.NewRat(int64(n), int64(d)) }

// power returns 2^n + more.
func power(n uint, more int64) *big.Int {
	p := new(big.Int).Lsh(big.NewInt(1), n)
	return p.Add(p, big.NewInt(more))
}

// floor returns the greatest whole number that is not greater than x.
func floor(x *big.Rat) *big.Int {
	return new(big.Int).Div(x.Num(), x.Denom()) // which rounds down, as the denominator is positive
}

// ceiling returns the least whole number that is not less than x.
func ceiling(x *big.Rat) *big.Int {
	n := floor(new(big.Rat).Neg(x))
	return n.Neg(n)
}

// modelIsFixed reports whether n billionths are between 0 and MaxMany.
func modelIsFixed(n int) bool {
	x := frac(n, unit)
	return x.Sign() >= 0 && x.Cmp(frac(million, 1)) <= 0
}

// modelFixed returns x, which is not negative, as a fixed-point number.
func modelFixed(x *big.Rat, round func(*big.Rat) *big.Int) answer {
	n := round(new(big.Rat).Mul(x, frac(unit, 1)))
	if n.Cmp(big.NewInt(most)) > 0 {
		return answer{e: api.ErrGreat}
	}
	return answer{n: int(n.Int64())}
}

func modelMayElect(votes, seats int) bool {
	return votes >= 0 && votes <= million && seats >= 1 && seats <= 10
}

func modelDroop(votes, seats int) answer {
	if !modelMayElect(votes, seats) {
		return answer{e: api.ErrArg}
	}
	return answer{n: int(floor(frac(votes, seats+1)).Int64()) + 1}
}

func modelHare(votes, seats int) answer {
	if !modelMayElect(votes, seats) {
		return answer{e: api.ErrArg}
	}
	return answer{ratio: ratioOf(frac(votes, seats))}
}

func modelHagenbach(votes, seats int) answer {
	if !modelMayElect(votes, seats) {
		return answer{e: api.ErrArg}
	}
	return answer{ratio: ratioOf(frac(votes, seats+1))}
}

func modelProduct(a, b int, round func(*big.Rat) *big.Int) answer {
	if !modelIsFixed(a) || !modelIsFixed(b) {
		return answer{e: api.ErrArg}
	}
	return modelFixed(new(big.Rat).Mul(frac(a, unit), frac(b, unit)), round)
}

func modelDown(a, b int) answer { return modelProduct(a, b, floor) }

func modelUp(a, b int) answer { return modelProduct(a, b, ceiling) }

func modelShare(a, b, c int) answer {
	if !modelIsFixed(a) || !modelIsFixed(b) || !modelIsFixed(c) {
		return answer{e: api.ErrArg}
	}
	if c == 0 {
		return answer{e: api.ErrZero}
	}
	product := new(big.Rat).Mul(frac(a, unit), frac(b, unit))
	return modelFixed(product.Quo(product, frac(c, unit)), floor)
}

func modelRatio(n int) answer {
	if !modelIsFixed(n) {
		return answer{e: api.ErrArg}
	}
	return answer{ratio: ratioOf(frac(n, unit))}
}

// modelIsNatural reports whether the limbs are those of a valid natural number.
func modelIsNatural(limbs []uint32) bool {
	return len(limbs) <= 96 && (len(limbs) == 0 || limbs[len(limbs)-1] != 0)
}

// modelIsRatio reports whether x is a valid rational number.
func modelIsRatio(x api.Ratio) bool {
	if !modelIsNatural(x.Num) || !modelIsNatural(x.Den) || len(x.Den) == 0 || x.Neg && len(x.Num) == 0 {
		return false
	}
	divisor := new(big.Int).GCD(nil, nil, bigOf(x.Num), bigOf(x.Den))
	return divisor.Cmp(big.NewInt(1)) == 0
}

func modelBillionths(x api.Ratio) answer {
	if !modelIsRatio(x) || x.Neg {
		return answer{e: api.ErrArg}
	}
	if len(x.Num) > 90 || len(x.Den) > 90 {
		return answer{e: api.ErrGreat}
	}
	return modelFixed(new(big.Rat).SetFrac(bigOf(x.Num), bigOf(x.Den)), floor)
}

// some returns a number from 0 to at most limit, small ones as often as great ones.
func some(r *rand.Rand, limit int) int {
	top := math.Pow(float64(limit), r.Float64())
	return min(r.Intn(int(top)+1), limit)
}
