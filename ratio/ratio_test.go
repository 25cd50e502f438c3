package ratio_test

import (
	"fmt"
	"math"
	"math/big"
	"math/rand"
	"regexp"
	"slices"
	"strings"
	"testing"

	"suffrage/api"
	"suffrage/ratio"
)

const mostBits = 32 * api.MaxLimbs

// answer is all that a call returns, in one form for all calls.
type answer struct {
	ratio api.Ratio
	n     int
	same  bool
	text  string
	e     api.Errno
}

// equalRatios reports whether all fields are equal. Nil and empty limbs are.
func equalRatios(x, y api.Ratio) bool {
	return x.Neg == y.Neg && slices.Equal(x.Num, y.Num) && slices.Equal(x.Den, y.Den)
}

func (a answer) equal(b answer) bool {
	return equalRatios(a.ratio, b.ratio) && a.n == b.n && a.same == b.same && a.text == b.text && a.e == b.e
}

// String shows an answer in a report.
func (a answer) String() string {
	long := fmt.Sprintf("(%t %x / %x", a.ratio.Neg, a.ratio.Num, a.ratio.Den)
	return fmt.Sprintf("%.200s, %d, %t, %.60q, error %d)", long, a.n, a.same, a.text, int(a.e))
}

// isError reports whether the answer is this error and nothing beside it.
func (a answer) isError(e api.Errno) bool { return a.equal(answer{e: e}) }

func ratioAnswer(x api.Ratio, e api.Errno) answer { return answer{ratio: x, e: e} }

// operation is a call for two numbers: what it does, and how the document has it in terms of big.Int.
type operation struct {
	name   string
	do     func(x, y api.Ratio) answer
	result func(x, y *big.Rat) answer
	// between returns the numbers that may not have more than MaxLimbs limbs. The denominator of y is not 0 where it divides.
	between func(x, y *big.Rat) []*big.Int
}

func operations() []operation {
	return []operation{
		{"Cmp", cmpCall, func(x, y *big.Rat) answer { return answer{n: x.Cmp(y)} }, cmpBetween},
		{"Add", func(x, y api.Ratio) answer { return ratioAnswer(ratio.Add(x, y)) }, func(x, y *big.Rat) answer { return found(new(big.Rat).Add(x, y)) }, sumBetween},
		{"Sub", func(x, y api.Ratio) answer { return ratioAnswer(ratio.Sub(x, y)) }, func(x, y *big.Rat) answer { return found(new(big.Rat).Sub(x, y)) }, differenceBetween},
		{"Mul", func(x, y api.Ratio) answer { return ratioAnswer(ratio.Mul(x, y)) }, func(x, y *big.Rat) answer { return found(new(big.Rat).Mul(x, y)) }, productBetween},
		{"Div", func(x, y api.Ratio) answer { return ratioAnswer(ratio.Div(x, y)) }, func(x, y *big.Rat) answer { return found(new(big.Rat).Quo(x, y)) }, quotientBetween},
	}
}

// named returns the operation with that name.
func named(name string) operation {
	l := operations()
	return l[slices.IndexFunc(l, func(o operation) bool { return o.name == name })]
}

func cmpCall(x, y api.Ratio) answer {
	order, e := ratio.Cmp(x, y)
	return answer{n: order, e: e}
}

func times(a, b *big.Int) *big.Int { return new(big.Int).Mul(a, b) }

// crossed returns the numerators over the common denominator, with their signs.
func crossed(x, y *big.Rat) []*big.Int {
	return []*big.Int{times(x.Num(), y.Denom()), times(y.Num(), x.Denom())}
}

func cmpBetween(x, y *big.Rat) []*big.Int {
	if x.Sign()*y.Sign() <= 0 {
		return nil
	}
	return crossed(x, y)
}

func sumBetween(x, y *big.Rat) []*big.Int {
	l := crossed(x, y)
	return append(l, new(big.Int).Add(l[0], l[1]), times(x.Denom(), y.Denom()))
}

func differenceBetween(x, y *big.Rat) []*big.Int {
	l := crossed(x, y)
	return append(l, new(big.Int).Sub(l[0], l[1]), times(x.Denom(), y.Denom()))
}

func productBetween(x, y *big.Rat) []*big.Int {
	return []*big.Int{times(x.Num(), y.Num()), times(x.Denom(), y.Denom())}
}

func quotientBetween(x, y *big.Rat) []*big.Int {
	return []*big.Int{times(x.Num(), y.Denom()), times(x.Denom(), y.Num())}
}

func isGreat(n *big.Int) bool { return n.BitLen() > mostBits }

// wanted returns what an operation returns for two valid numbers.
func (o operation) wanted(x, y *big.Rat) answer {
	switch {
	case o.name == "Div" && y.Sign() == 0:
		return answer{e: api.ErrZero}
	case slices.ContainsFunc(o.between(x, y), isGreat):
		return answer{e: api.ErrGreat}
	}
	return o.result(x, y)
}

func found(r *big.Rat) answer { return answer{ratio: ratioOf(r)} }

// bigOf returns the number with limbs a.
func bigOf(a []uint32) *big.Int {
	n := new(big.Int)
	for i, limb := range a {
		n.Add(n, new(big.Int).Lsh(big.NewInt(int64(limb)), uint(32*i)))
	}
	return n
}

// limbsOf returns the limbs of the absolute value of n.
func limbsOf(n *big.Int) []uint32 {
	var a []uint32
	for rest := new(big.Int).Abs(n); rest.Sign() > 0; rest.Rsh(rest, 32) {
		a = append(a, uint32(rest.Uint64()))
	}
	return a
}

// ratioOf returns the number r, which big.Rat holds in lowest terms.
func ratioOf(r *big.Rat) api.Ratio {
	return api.Ratio{Neg: r.Sign() < 0, Num: limbsOf(r.Num()), Den: limbsOf(r.Denom())}
}

func small(n, d int64) *big.Rat { return big.NewRat(n, d) }

// power returns 2^bits + more.
func power(bits uint, more int64) *big.Int {
	return new(big.Int).Add(new(big.Int).Lsh(big.NewInt(1), bits), big.NewInt(more))
}

func quotient(n, d *big.Int) *big.Rat { return new(big.Rat).SetFrac(n, d) }

func minus(r *big.Rat) *big.Rat { return new(big.Rat).Neg(r) }

// smalls returns all numbers with numerators and denominators up to limits.
func smalls(mostNum, mostDen int64) []*big.Rat {
	var l []*big.Rat
	for d := int64(1); d <= mostDen; d++ {
		for n := -mostNum; n <= mostNum; n++ {
			if r := small(n, d); r.Denom().Int64() == d {
				l = append(l, r)
			}
		}
	}
	return l
}

// edges returns numbers at which results may need another limb, or one too many.
func edges() []*big.Rat {
	var l []*big.Rat
	for _, bits := range []uint{32, 64, 1536, 3071} {
		l = append(l, quotient(power(bits, -1), big.NewInt(1)), quotient(big.NewInt(1), power(bits, 0)), quotient(power(bits, 1), power(bits, 0)), quotient(big.NewInt(3), power(bits, 1)))
	}
	most := power(mostBits, -1)
	l = append(l, quotient(most, big.NewInt(1)), quotient(big.NewInt(1), most), quotient(most, power(mostBits-1, 0)))
	for _, r := range slices.Clone(l) {
		l = append(l, minus(r))
	}
	return append(l, small(0, 1), small(1, 1), small(-1, 1), small(-2, 3))
}

// random returns a number with a numerator and a denominator of up to so many bits.
func random(source *rand.Rand, bits int) *big.Rat {
	num, den := new(big.Int), new(big.Int)
	num.Rand(source, power(uint(source.Intn(bits+1)), 0))
	den.Rand(source, power(uint(source.Intn(bits+1)), 0))
	r := quotient(num, den.Add(den, big.NewInt(1)))
	if source.Intn(2) == 0 {
		return minus(r)
	}
	return r
}

// wantAll reports operations on two numbers that do not answer what is wanted.
func wantAll(t *testing.T, x, y *big.Rat) {
	t.Helper()
	for _, o := range operations() {
		want := o.wanted(x, y)
		if got := o.do(ratioOf(x), ratioOf(y)); !got.equal(want) {
			t.Errorf("%.60s of %.60s and %.60s = %v; want %v", o.name, x, y, got, want)
		}
	}
}

// argument is a number, or what is none.
type argument struct {
	name string
	x    api.Ratio
}

// invalid returns values that are no valid numbers, for each reason.
func invalid() []argument {
	long := append(make([]uint32, api.MaxLimbs), 1)
	one, none := []uint32{1}, []uint32(nil)
	return []argument{
		{"the zero value", api.Ratio{}},
		{"negative without limbs", api.Ratio{Neg: true}},
		{"1/0", api.Ratio{Num: one}},
		{"-1/0", api.Ratio{Neg: true, Num: one, Den: []uint32{}}},
		{"2/0", api.Ratio{Num: []uint32{2}, Den: none}},
		{"-0", api.Ratio{Neg: true, Den: one}},
		{"0/2", api.Ratio{Den: []uint32{2}}},
		{"0/2^64", api.Ratio{Den: []uint32{0, 0, 1}}},
		{"2/4", api.Ratio{Num: []uint32{2}, Den: []uint32{4}}},
		{"-3/3", api.Ratio{Neg: true, Num: []uint32{3}, Den: []uint32{3}}},
		{"2^32/2^32", api.Ratio{Num: []uint32{0, 1}, Den: []uint32{0, 1}}},
		{"2^32/6", api.Ratio{Num: []uint32{0, 1}, Den: []uint32{6}}},
		{"a numerator 0 with a limb", api.Ratio{Num: []uint32{0}, Den: one}},
		{"a numerator with a last limb of 0", api.Ratio{Num: []uint32{5, 0}, Den: one}},
		{"a denominator 0 with a limb", api.Ratio{Num: one, Den: []uint32{0}}},
		{"a denominator with a last limb of 0", api.Ratio{Num: []uint32{5}, Den: []uint32{1, 0}}},
		{"a numerator with a limb too many", api.Ratio{Num: long, Den: one}},
		{"a denominator with a limb too many", api.Ratio{Num: one, Den: long}},
		{"a denominator with a limb too many, the last one 0", api.Ratio{Num: one, Den: append(append([]uint32{}, long[1:]...), 0)}},
		{"both too long", api.Ratio{Num: long, Den: long}},
		{"a long common divisor", api.Ratio{Num: limbsOf(power(mostBits-1, 0)), Den: limbsOf(power(mostBits-2, 0))}},
		{"a common divisor of 2^32 + 1", api.Ratio{Num: []uint32{3, 3}, Den: []uint32{2, 2}}},
		{"a common divisor of 2^32", api.Ratio{Num: []uint32{0, 3}, Den: []uint32{0, 2}}},
		{"a common divisor of 3", api.Ratio{Num: limbsOf(times(power(1000, 0), big.NewInt(3))), Den: []uint32{9}}},
	}
}

// P4.1

func TestCheck(t *testing.T) {
	for _, r := range append(smalls(20, 20), edges()...) {
		if e := ratio.Check(ratioOf(r)); e != api.OK {
			t.Errorf("Check of %.60s = %d", r, int(e))
		}
	}
	for _, bad := range invalid() {
		if e := ratio.Check(bad.x); e != api.ErrBad {
			t.Errorf("Check of %.60s = %d", bad.name, int(e))
		}
	}
	if e := ratio.Check(api.Ratio{Num: []uint32{}, Den: []uint32{1}}); e != api.OK {
		t.Errorf("Check of 0 with empty limbs = %d", int(e))
	}
}

// All fractions of small limbs, valid or not.
func TestCheckOfSmallFractions(t *testing.T) {
	for n := range uint32(40) {
		for d := range uint32(40) {
			for _, neg := range []bool{false, true} {
				x := api.Ratio{Neg: neg, Num: []uint32{n}, Den: []uint32{d}}
				if n == 0 {
					x.Num = nil
				}
				if d == 0 {
					x.Den = nil
				}
				want := api.ErrBad
				if d > 0 && equalRatios(x, ratioOf(small(int64(n)*sign(neg), int64(max(d, 1))))) {
					want = api.OK
				}
				if e := ratio.Check(x); e != want {
					t.Errorf("Check of %t %d / %d = %d; want %d", neg, n, d, int(e), int(want))
				}
			}
		}
	}
}

func sign(neg bool) int64 {
	if neg {
		return -1
	}
	return 1
}

func TestOf(t *testing.T) {
	parts := []int64{math.MinInt64, math.MinInt64 + 1, -1 << 62, -1 << 32, -720720, -6, -4, -3, -2, -1, 0, 1, 2, 3, 4, 6, 9, 720720, math.MaxUint32, 1 << 32, 1 << 62, math.MaxInt64 - 1, math.MaxInt64}
	for _, n := range parts {
		for _, d := range parts {
			want := answer{e: api.ErrZero}
			if d != 0 {
				want = found(quotient(big.NewInt(n), big.NewInt(d)))
			}
			if got := ratioAnswer(ratio.Of(n, d)); !got.equal(want) {
				t.Errorf("Of(%d, %d) = %v; want %v", n, d, got, want)
			}
		}
	}
	if got := ratioAnswer(ratio.Of(math.MinInt64, -1)); !got.equal(answer{ratio: api.Ratio{Num: []uint32{0, 1 << 31}, Den: []uint32{1}}}) {
		t.Errorf("Of(-2^63, -1) = %v", got)
	}
}

func TestWhole(t *testing.T) {
	for _, n := range []int{math.MinInt, math.MinInt + 1, -1 << 32, -7, -1, 0, 1, 7, math.MaxUint32, 1 << 32, math.MaxInt - 1, math.MaxInt} {
		want := ratioOf(new(big.Rat).SetInt64(int64(n)))
		if got := ratio.Whole(n); !equalRatios(got, want) {
			t.Errorf("Whole(%d) = %v; want %v", n, got, want)
		}
	}
}

// lookAlikes returns values that differ in one field, or in one limb.
func lookAlikes() []api.Ratio {
	var l []api.Ratio
	limbs := [][]uint32{nil, {0}, {1}, {2}, {1, 0}, {1, 1}, {0, 1}, {2, 1}, make([]uint32, 200), limbsOf(power(5000, 0))}
	for _, neg := range []bool{false, true} {
		for _, num := range limbs {
			for _, den := range limbs {
				l = append(l, api.Ratio{Neg: neg, Num: num, Den: den})
			}
		}
	}
	return l
}

func TestSame(t *testing.T) {
	l := lookAlikes()
	for i, x := range l {
		for j, y := range l {
			if got := ratio.Same(x, y); got != (i == j) {
				t.Errorf("Same(%v, %v) = %t", x, y, got)
			}
		}
	}
	if !ratio.Same(api.Ratio{Num: []uint32{}}, api.Ratio{Den: []uint32{}}) {
		t.Error("empty and nil limbs are not the same")
	}
	for _, r := range edges() {
		if !ratio.Same(ratioOf(r), ratioOf(r)) || ratio.Same(ratioOf(r), ratioOf(new(big.Rat).Add(r, small(1, 1)))) {
			t.Errorf("Same with %.60s is wrong", r)
		}
	}
}

func TestTwin(t *testing.T) {
	l := lookAlikes()
	for _, bad := range invalid() {
		l = append(l, bad.x)
	}
	for _, r := range edges() {
		l = append(l, ratioOf(r))
	}
	for _, x := range l {
		if got := ratio.Twin(x); !equalRatios(got, x) {
			t.Errorf("Twin of %v = %v", x, got)
		}
	}
}

func TestNeg(t *testing.T) {
	for _, r := range append(smalls(12, 12), edges()...) {
		got := ratioAnswer(ratio.Neg(ratioOf(r)))
		if want := found(minus(r)); !got.equal(want) {
			t.Errorf("Neg of %.60s = %v; want %v", r, got, want)
		}
	}
	for _, bad := range invalid() {
		if got := ratioAnswer(ratio.Neg(bad.x)); !got.isError(api.ErrBad) {
			t.Errorf("Neg of %.60s = %v", bad.name, got)
		}
	}
}

func TestCmp(t *testing.T) {
	l := []*big.Rat{quotient(power(3000, 0), big.NewInt(-1)), small(-5, 2), small(-2, 1), small(-5, 3), small(-1, 1000), small(0, 1), quotient(big.NewInt(1), power(3000, 0)), small(1, 3), small(1, 2), small(2, 3), small(3, 2)}
	for i, x := range l {
		for j, y := range l {
			want := answer{n: order(i, j)}
			if got := cmpCall(ratioOf(x), ratioOf(y)); !got.equal(want) {
				t.Errorf("Cmp of %.60s and %.60s = %v; want %v", x, y, got, want)
			}
		}
	}
}

func order(i, j int) int {
	switch {
	case i < j:
		return -1
	case i > j:
		return 1
	}
	return 0
}

// Where the signs differ, or one number is 0, no product is formed.
func TestCmpOfLongNumbers(t *testing.T) {
	long, longer := quotient(power(3000, 1), power(2999, 0)), quotient(power(3001, 1), power(2999, 0))
	tests := []struct {
		x, y *big.Rat
		want answer
	}{
		{long, minus(long), answer{n: 1}},
		{minus(long), long, answer{n: -1}},
		{minus(long), longer, answer{n: -1}},
		{long, small(0, 1), answer{n: 1}},
		{small(0, 1), long, answer{n: -1}},
		{minus(long), small(0, 1), answer{n: -1}},
		{small(0, 1), minus(long), answer{n: 1}},
		{long, longer, answer{e: api.ErrGreat}},
		{minus(long), minus(longer), answer{e: api.ErrGreat}},
		{long, long, answer{e: api.ErrGreat}},
		{minus(long), minus(long), answer{e: api.ErrGreat}},
		{quotient(big.NewInt(1), power(3000, 0)), quotient(big.NewInt(1), power(3000, 0)), answer{}}, // the product of the denominators is not asked for
		{quotient(big.NewInt(1), power(3000, 0)), quotient(big.NewInt(1), power(3001, 0)), answer{n: 1}},
		{quotient(big.NewInt(-1), power(3000, 0)), quotient(big.NewInt(-1), power(3001, 0)), answer{n: -1}},
	}
	for _, c := range tests {
		if got := cmpCall(ratioOf(c.x), ratioOf(c.y)); !got.equal(c.want) {
			t.Errorf("Cmp of %.60s and %.60s = %v; want %v", c.x, c.y, got, c.want)
		}
	}
}

// P4.1 and P4.2

func TestOperationsOnSmallNumbers(t *testing.T) {
	l := smalls(6, 6)
	for _, x := range l {
		for _, y := range l {
			wantAll(t, x, y)
		}
	}
}

func TestOperationsAtEdges(t *testing.T) {
	l := edges()
	for _, x := range l {
		for _, y := range l {
			wantAll(t, x, y)
		}
	}
}

func TestOperationsOnRandomNumbers(t *testing.T) {
	source := rand.New(rand.NewSource(4))
	for _, bits := range []int{40, 100, 1600, 3000} {
		for range 100 {
			wantAll(t, random(source, bits), random(source, bits))
		}
	}
}

// A denominator that both numbers have is multiplied nevertheless, and numbers that are sure to be shorter afterwards are too long before.
func TestGreatNumbersBetween(t *testing.T) {
	one := big.NewInt(1)
	odd, even := power(1535, -1), power(1535, 0) // no common divisor
	over := func(n *big.Int) *big.Rat { return quotient(n, even) }
	sumOf := func(k, bits uint, more int64) (x, y *big.Rat) { // two fractions with the denominator 2^1535, and the sum k
		n := power(bits, more)
		return over(n), over(new(big.Int).Sub(times(even, big.NewInt(int64(k))), n))
	}
	a, b := sumOf(1, 1537, 1)
	c, d := sumOf(4, 1536, 1)
	third := quotient(new(big.Int).Sub(odd, big.NewInt(2)), odd) // with the next one, the sum 3
	more := quotient(new(big.Int).Add(times(odd, big.NewInt(2)), big.NewInt(2)), odd)
	half, square := quotient(one, power(1536, 0)), quotient(one, power(1536, -1))
	w, v := power(1536, 1), power(1535, 1) // products of 3073 and 3072 bits with 2^1536
	up, down := quotient(power(1536, 0), v), quotient(w, power(1536, 0))
	tests := []struct {
		name, of string
		x, y     *big.Rat
		great    int // which number between is too great; -1 if none is
		result   string
	}{
		{"all of them just fit", "Add", third, more, -1, "3"},
		{"all of them just fit, negative", "Add", minus(third), minus(more), -1, "-3"},
		{"x.Num * y.Den", "Add", a, b, 0, "1"},
		{"x.Num * y.Den, negative", "Add", minus(a), minus(b), 0, "-1"},
		{"y.Num * x.Den", "Add", b, a, 1, "1"},
		{"the sum", "Add", c, d, 2, "4"},
		{"the sum, negative", "Add", minus(c), minus(d), 2, "-4"},
		{"x.Den * y.Den", "Add", half, minus(half), 3, "0"},
		{"x.Den * y.Den just fits", "Add", square, minus(square), -1, "0"},
		{"all of them just fit", "Sub", third, minus(more), -1, "3"},
		{"x.Num * y.Den", "Sub", a, minus(b), 0, "1"},
		{"y.Num * x.Den", "Sub", b, minus(a), 1, "1"},
		{"the difference", "Sub", c, minus(d), 2, "4"},
		{"the difference, negative", "Sub", minus(c), d, 2, "-4"},
		{"x.Den * y.Den", "Sub", half, half, 3, "0"},
		{"x.Den * y.Den just fits", "Sub", square, square, -1, "0"},
		{"both just fit", "Mul", quotient(power(1536, 0), v), quotient(v, power(1535, 0)), -1, "2"},
		{"x.Num * y.Num", "Mul", quotient(power(1536, 0), w), quotient(w, power(1535, 0)), 0, "2"},
		{"x.Den * y.Den", "Mul", quotient(power(1535, 0), w), quotient(w, power(1536, 0)), 1, "1/2"},
		{"x.Den * y.Den, negative", "Mul", quotient(w, power(1536, 0)), minus(quotient(power(1535, 0), w)), 1, "-1/2"},
		{"both just fit", "Div", up, new(big.Rat).Inv(quotient(v, power(1535, 0))), -1, "2"},
		{"x.Num * y.Den", "Div", quotient(power(1536, 0), w), quotient(power(1535, 0), w), 0, "2"},
		{"x.Den * y.Num", "Div", quotient(power(1535, 0), w), new(big.Rat).Inv(down), 1, "1/2"},
		{"x.Num * y.Den", "Cmp", a, minus(b), 0, ""},
		{"y.Num * x.Den", "Cmp", minus(b), a, 1, ""},
		{"x.Num * y.Den, negative", "Cmp", minus(a), b, 0, ""},
		{"y.Num * x.Den, negative", "Cmp", b, minus(a), 1, ""},
		{"both just fit", "Cmp", third, more, -1, ""},
		{"both just fit, negative", "Cmp", minus(third), minus(more), -1, ""},
	}
	for _, c := range tests {
		o := named(c.of)
		between := o.between(c.x, c.y)
		if c.great >= len(between) {
			t.Fatalf("%.60s of %.60s: there are %d numbers between", c.of, c.name, len(between))
		}
		for i, n := range between {
			if isGreat(n) != (i == c.great) {
				t.Fatalf("%.60s of %.60s: number %d between has %d bits", c.of, c.name, i, n.BitLen())
			}
		}
		if got, want := o.do(ratioOf(c.x), ratioOf(c.y)), o.wanted(c.x, c.y); !got.equal(want) || (got.e == api.ErrGreat) != (c.great >= 0) {
			t.Errorf("%.60s, %.60s: %v; want %v", c.of, c.name, got, want)
		}
		if want, _ := new(big.Rat).SetString(c.result); want != nil && !equalRatios(o.result(c.x, c.y).ratio, ratioOf(want)) {
			t.Fatalf("%.60s, %.60s: the result is not %.60s", c.of, c.name, c.result)
		}
	}
}

// Every number between of a sum has MaxLimbs limbs.
func TestNumbersBetweenThatJustFit(t *testing.T) {
	n, d := power(1535, -3), power(1535, -1)
	x, y := quotient(n, d), quotient(times(power(1535, 0), big.NewInt(2)), d)
	for _, n := range sumBetween(x, y) {
		if len(limbsOf(n)) != api.MaxLimbs {
			t.Fatalf("%d bits", n.BitLen())
		}
	}
	if got := ratioAnswer(ratio.Add(ratioOf(x), ratioOf(y))); !got.equal(found(small(3, 1))) {
		t.Errorf("the sum is %v", got)
	}
	if got := ratioAnswer(ratio.Sub(ratioOf(x), ratioOf(minus(y)))); !got.equal(found(small(3, 1))) {
		t.Errorf("the difference is %v", got)
	}
}

func TestDivByZero(t *testing.T) {
	for _, r := range append(smalls(3, 3), edges()...) {
		if got := ratioAnswer(ratio.Div(ratioOf(r), ratio.Whole(0))); !got.isError(api.ErrZero) {
			t.Errorf("%.60s / 0 = %v", r, got)
		}
	}
}

func TestZeroHasOneForm(t *testing.T) {
	zero := api.Ratio{Den: []uint32{1}}
	for _, r := range smalls(5, 5) {
		x := ratioOf(r)
		for _, got := range []answer{ratioAnswer(ratio.Sub(x, x)), ratioAnswer(ratio.Add(x, ratioOf(minus(r)))), ratioAnswer(ratio.Mul(x, zero)), ratioAnswer(ratio.Mul(zero, x))} {
			if !got.equal(answer{ratio: zero}) {
				t.Errorf("with %.60s, 0 is %v", r, got)
			}
		}
		if got := ratioAnswer(ratio.Div(zero, x)); r.Sign() != 0 && !got.equal(answer{ratio: zero}) {
			t.Errorf("0 / %.60s = %v", r, got)
		}
	}
}

// P4.3

func floorCall(x api.Ratio) answer {
	n, e := ratio.Floor(x)
	return answer{n: n, e: e}
}

func textCall(x api.Ratio) answer {
	s, e := ratio.Text(x)
	return answer{text: s, e: e}
}

// floored returns what Floor returns, as big.Int has it.
func floored(r *big.Rat) answer {
	n := new(big.Int).Div(r.Num(), r.Denom()) // which rounds down, as the denominator is positive
	if !n.IsInt64() {
		return answer{e: api.ErrGreat}
	}
	return answer{n: int(n.Int64())}
}

func TestFloor(t *testing.T) {
	l := append(smalls(30, 8), edges()...)
	near := []*big.Rat{small(1, 2), small(1, 3), small(2, 3), quotient(big.NewInt(1), power(64, 0)), quotient(big.NewInt(1), power(2900, 0))}
	for _, n := range []*big.Int{big.NewInt(0), big.NewInt(1), big.NewInt(5), power(31, 0), power(32, 0), power(62, 0), power(63, -1), power(63, 0), power(63, 1), power(64, -1), power(64, 0), power(100, 0)} {
		whole := new(big.Rat).SetInt(n)
		l = append(l, whole, minus(whole))
		for _, bit := range near {
			above, below := new(big.Rat).Add(whole, bit), new(big.Rat).Sub(whole, bit)
			l = append(l, above, minus(above), below, minus(below))
		}
	}
	for _, r := range l {
		want := floored(r)
		if got := floorCall(ratioOf(r)); !got.equal(want) {
			t.Errorf("Floor of %.60s = %v; want %v", r, got, want)
		}
	}
}

func TestFloorAtItsLimits(t *testing.T) {
	tests := map[string]answer{
		"7/2": {n: 3}, "-7/2": {n: -4}, "-1/2": {n: -1}, "1/2": {}, "-4": {n: -4},
		"9223372036854775807": {n: math.MaxInt64}, "9223372036854775808": {e: api.ErrGreat},
		"18446744073709551615/2": {n: math.MaxInt64}, "-18446744073709551615/2": {n: math.MinInt64},
		"-9223372036854775808": {n: math.MinInt64}, "-9223372036854775809": {e: api.ErrGreat},
		"-18446744073709551617/2": {e: api.ErrGreat}, "-18446744073709551615": {e: api.ErrGreat},
		"-36893488147419103231/2": {e: api.ErrGreat}, "-18446744073709551616": {e: api.ErrGreat},
		"-36893488147419103233/2": {e: api.ErrGreat}, "18446744073709551616": {e: api.ErrGreat},
	}
	for s, want := range tests {
		r, _ := new(big.Rat).SetString(s)
		if got := floorCall(ratioOf(r)); !got.equal(want) {
			t.Errorf("Floor of %.60s = %v; want %v", s, got, want)
		}
	}
}

func TestText(t *testing.T) {
	for _, r := range append(smalls(25, 12), edges()...) {
		if got := textCall(ratioOf(r)); !got.equal(answer{text: r.RatString()}) {
			t.Errorf("Text of %.60s = %v", r, got)
		}
	}
	tests := map[string]api.Ratio{"0": ratio.Whole(0), "-1": ratio.Whole(-1), "10": ratio.Whole(10), "-3/2": {Neg: true, Num: []uint32{3}, Den: []uint32{2}}, "1/18446744073709551616": {Num: []uint32{1}, Den: []uint32{0, 0, 1}}}
	for want, x := range tests {
		if got := textCall(x); !got.equal(answer{text: want}) {
			t.Errorf("Text of %v = %v; want %q", x, got, want)
		}
	}
}

func TestFloorAndTextOfInvalid(t *testing.T) {
	for _, bad := range invalid() {
		if got := floorCall(bad.x); !got.isError(api.ErrBad) {
			t.Errorf("Floor of %.60s = %v", bad.name, got)
		}
		if got := textCall(bad.x); !got.isError(api.ErrBad) {
			t.Errorf("Text of %.60s = %v", bad.name, got)
		}
	}
}

var decimal = regexp.MustCompile(`^-?(0|[1-9][0-9]*)(/(0|[1-9][0-9]*))?$`)

// readable returns what Read returns for s, whose numbers are not too great.
func readable(s string) answer {
	if !decimal.MatchString(s) {
		return answer{e: api.ErrForm}
	}
	r, ok := new(big.Rat).SetString(s)
	if !ok || r.RatString() != s {
		return answer{e: api.ErrForm}
	}
	return found(r)
}

// wantRead reports an answer of Read that is not wanted.
func wantRead(t *testing.T, s string, want answer) {
	t.Helper()
	if got := ratioAnswer(ratio.Read(s)); !got.equal(want) {
		t.Errorf("Read(%.60q) = %v; want %v", s, got, want)
	}
}

func TestReadBacksText(t *testing.T) {
	for _, r := range append(smalls(25, 12), edges()...) {
		wantRead(t, r.RatString(), found(r))
	}
}

func TestReadOfAllShortStrings(t *testing.T) {
	letters := "-/0124+ x"
	l := []string{""}
	for range 5 {
		var longer []string
		for _, s := range l {
			wantRead(t, s, readable(s))
			for _, c := range letters {
				longer = append(longer, s+string(c))
			}
		}
		l = longer
	}
	for _, s := range l {
		wantRead(t, s, readable(s))
	}
}

func TestReadOfWrongForms(t *testing.T) {
	for _, s := range []string{"", "-", "/", "-/", "1/", "/2", "-/2", "1/-2", "-1/-2", "1/2/3", "1//2", "--1", "+1", "1/+2", "01", "-01", "1/02", "00", "0/0", "1/0", "-1/0", "0/1", "0/2", "-0", "-0/1", "-0/2", "2/1", "3/1", "-3/1", "1/1", "2/2", "2/4", "-2/4", "6/4", "4294967296/2", "36893488147419103232/18446744073709551616", " 1", "1 ", "1 /2", "1/ 2", "1\n", "1.5", "1e3", "0x1", "1_000", "½", "\x00", "١", "1/2\x00"} {
		wantRead(t, s, answer{e: api.ErrForm})
	}
}

func TestReadOfGreatNumbers(t *testing.T) {
	most, great := power(mostBits, -1).String(), power(mostBits, 0).String()
	even := power(mostBits, -2).String() // with 2, not in lowest terms
	for _, s := range []string{most, "-" + most, "1/" + most, "-1/" + most, even + "/" + most, most + "/" + even, most + "/2"} {
		r, _ := new(big.Rat).SetString(s)
		wantRead(t, s, found(r))
	}
	for _, s := range []string{most + "/1", even + "/2", "2/" + even, most + "/" + most, "0/" + most, most + "/0", "-0/" + most} {
		wantRead(t, s, answer{e: api.ErrForm})
	}
	for _, s := range []string{great, "-" + great, "1/" + great, "-1/" + great, great + "/2", "2/" + great, great + "/1", great + "/0", "0/" + great, "-0/" + great, great + "/" + great, "-" + great + "/" + great, strings.Repeat("9", 50000), "7/1" + strings.Repeat("0", 50000)} {
		wantRead(t, s, answer{e: api.ErrGreat})
	}
	for _, s := range []string{great + "/", "/" + great, great + "/02", "02/" + great, "+" + great, "--" + great, great + "/-2", "-2/-" + great, great + "/" + great + "/1", great + " ", " " + great, "0" + great, "1/0" + great, great + "x", "x/" + great, great + "/x", great + "/1x", "-/" + great} {
		wantRead(t, s, answer{e: api.ErrForm})
	}
}

// P4.4

// triples visits triples of small numbers and of some greater ones.
func triples(do func(x, y, z api.Ratio)) {
	source := rand.New(rand.NewSource(44))
	l := smalls(3, 4)
	for range 4 {
		l = append(l, random(source, 300))
	}
	for _, x := range l {
		for _, y := range l {
			for _, z := range l {
				do(ratioOf(x), ratioOf(y), ratioOf(z))
			}
		}
	}
}

// must returns the result of an operation that is to succeed.
func must(t *testing.T, name string, x, y api.Ratio) api.Ratio {
	t.Helper()
	a := named(name).do(x, y)
	if a.e != api.OK {
		t.Fatalf("%.60s of %v and %v: error %d", name, x, y, int(a.e))
	}
	return a.ratio
}

func TestCommutative(t *testing.T) {
	l := append(edges(), smalls(3, 4)...)
	for _, a := range l {
		for _, b := range l {
			for _, name := range []string{"Add", "Mul"} {
				do, x, y := named(name).do, ratioOf(a), ratioOf(b)
				if one, other := do(x, y), do(y, x); !one.equal(other) {
					t.Errorf("%.60s of %.60s and %.60s: %v and %v", name, a, b, one, other)
				}
			}
		}
	}
}

func TestAssociativeAndDistributive(t *testing.T) {
	triples(func(x, y, z api.Ratio) {
		for _, name := range []string{"Add", "Mul"} {
			if one, other := must(t, name, must(t, name, x, y), z), must(t, name, x, must(t, name, y, z)); !ratio.Same(one, other) {
				t.Errorf("%.60s of %v, %v and %v: %v and %v", name, x, y, z, one, other)
			}
		}
		if one, other := must(t, "Mul", x, must(t, "Add", y, z)), must(t, "Add", must(t, "Mul", x, y), must(t, "Mul", x, z)); !ratio.Same(one, other) {
			t.Errorf("%v * (%v + %v): %v and %v", x, y, z, one, other)
		}
	})
}

func TestUndone(t *testing.T) {
	l := append(edges(), smalls(4, 5)...)
	undone := 0
	for _, a := range l {
		for _, b := range l {
			x, y := ratioOf(a), ratioOf(b)
			for do, undo := range map[string]string{"Add": "Sub", "Mul": "Div"} {
				there := named(do).do(x, y)
				if there.e != api.OK || do == "Mul" && b.Sign() == 0 {
					continue
				}
				back := named(undo).do(there.ratio, y)
				if back.e == api.ErrGreat {
					continue
				}
				undone++
				if !back.equal(answer{ratio: x}) {
					t.Errorf("%.60s does not undo %.60s of %.60s and %.60s: %v", undo, do, a, b, back)
				}
			}
		}
	}
	if undone < 1000 {
		t.Errorf("only %d results", undone)
	}
}

func TestTotalOrder(t *testing.T) {
	compare := func(x, y api.Ratio) int { return cmpCall(x, y).n }
	triples(func(x, y, z api.Ratio) {
		if compare(x, y) != -compare(y, x) || (compare(x, y) == 0) != ratio.Same(x, y) {
			t.Errorf("the order of %v and %v is wrong", x, y)
		}
		if compare(x, y) <= 0 && compare(y, z) <= 0 && compare(x, z) > 0 {
			t.Errorf("the order of %v, %v and %v is wrong", x, y, z)
		}
		if compare(x, y) != compare(must(t, "Add", x, z), must(t, "Add", y, z)) {
			t.Errorf("the order of %v and %v changes with %v", x, y, z)
		}
	})
}
