package quota_test

import (
	"math"
	"math/big"
	"math/rand"
	"slices"
	"testing"

	"suffrage/api"
	"suffrage/ratio"
)

// argument is a number for Billionths, valid or not.
type argument struct {
	name string
	x    api.Ratio
}

func wantRatio(t *testing.T, n int) {
	t.Helper()
	if got, want := toRatio(n), modelRatio(n); !got.equal(want) {
		t.Errorf("Ratio of %d = %v; want %v", n, got, want)
	}
}

func wantBillionths(t *testing.T, x api.Ratio) {
	t.Helper()
	if got, want := billionths(x), modelBillionths(x); !got.equal(want) {
		t.Errorf("Billionths of %.200v = %v; want %v", x, got, want)
	}
}

// rat returns the number with this text, as big.Rat reads it.
func rat(s string) *big.Rat {
	x, ok := new(big.Rat).SetString(s)
	if !ok {
		panic(s)
	}
	return x
}

// over returns n / d in the form of the program.
func over(n, d *big.Int) api.Ratio { return ratioOf(new(big.Rat).SetFrac(n, d)) }

// ones returns so many limbs that are all bits 1.
func ones(limbs int) []uint32 { return slices.Repeat([]uint32{math.MaxUint32}, limbs) }

// shifted returns the number 1 with so many limbs, that is 2^(32 (limbs - 1)).
func shifted(limbs int) []uint32 {
	l := make([]uint32, limbs)
	l[limbs-1] = 1
	return l
}

// P17.3

func TestP17_3Ratio(t *testing.T) {
	for _, c := range []struct {
		n    int
		want api.Ratio
	}{
		{0, written(0, 1)},
		{1, written(1, unit)},
		{2, written(1, unit/2)},
		{3, written(3, unit)},
		{5, written(1, unit/5)},
		{7, written(7, unit)},
		{1024, written(2, 1_953_125)},
		{512, written(1, 1_953_125)},
		{1_953_125, written(1, 512)},
		{9_765_625, written(5, 512)},
		{30, written(3, unit/10)},
		{unit / 2, written(1, 2)},
		{unit / 3, written(unit/3, unit)},
		{unit - 1, written(unit-1, unit)},
		{unit, written(1, 1)},
		{unit + 1, written(unit+1, unit)},
		{unit + 2, written(unit/2+1, unit/2)},
		{3 * unit / 2, written(3, 2)},
		{2 * unit, written(2, 1)},
		{999 * unit, written(999, 1)},
		{most - unit, written(million-1, 1)},
		{most - unit/2, written(2*million-1, 2)},
		{most - 1, api.Ratio{Num: []uint32{2_764_472_319, 232_830}, Den: []uint32{unit}}},
		{most, written(million, 1)},
	} {
		if got := toRatio(c.n); !got.equal(answer{ratio: c.want}) {
			t.Errorf("Ratio of %d = %v", c.n, got)
		}
		wantRatio(t, c.n)
	}
	for _, bad := range append(outside(), -2, most+2, -1<<32, 1<<63-unit) {
		if got := toRatio(bad); !got.isError(api.ErrArg) {
			t.Errorf("Ratio of %d = %v", bad, got)
		}
		wantRatio(t, bad)
	}
}

func TestP17_3RatioOfManyNumbers(t *testing.T) {
	for n := -3; n < 3000; n++ {
		wantRatio(t, n)
		wantRatio(t, unit+n-1500)
		wantRatio(t, most-n)
	}
	for twos, p := 0, 1; twos <= 12; twos, p = twos+1, 2*p { // with all divisors of Unit, and more
		for fives, q := 0, 1; fives <= 12; fives, q = fives+1, 5*q {
			for _, other := range []int{1, 3, 7, 333, 65_537} {
				if p*q*other <= most {
					wantRatio(t, p*q*other)
				}
			}
		}
	}
	r := rand.New(rand.NewSource(3))
	for range 20_000 {
		wantRatio(t, some(r, most))
	}
}

func TestP17_3Billionths(t *testing.T) {
	for _, c := range []struct {
		x string
		n int
		e api.Errno
	}{
		{"0", 0, 0},
		{"1", unit, 0},
		{"2", 2 * unit, 0},
		{"999999", 999_999 * unit, 0},
		{"0.5", unit / 2, 0},
		{"1.25", 1_250_000_000, 0},
		{"0.000000001", 1, 0},
		{"0.123456789", 123_456_789, 0},
		{"0.1234567891", 123_456_789, 0},
		{"0.12345678999999999999999999999", 123_456_789, 0},
		{"0.123456788999999999999999999999999999", 123_456_788, 0},
		{"0.000000000999999999999", 0, 0},
		{"1e-10", 0, 0},
		{"1e-300", 0, 0},
		{"1/3", 333_333_333, 0},
		{"2/3", 666_666_666, 0},
		{"22/7", 3_142_857_142, 0},
		{"1/999999999", 1, 0},
		{"1/1000000001", 0, 0},
		{"2/1000000001", 1, 0},
		{"12345678901234567890/12345678901234567891", unit - 1, 0},
		{"12345678901234567892/12345678901234567891", unit, 0},
		{"1000000", most, 0},
		{"999999.999999999", most - 1, 0},
		{"999999.9999999999", most - 1, 0},
		{"999999.999999998999999", most - 2, 0},
		{"999999.99999999999999999999999999999999999", most - 1, 0},
		{"1000000.0000000001", most, 0},
		{"1000000.000000000999999999999999999", most, 0},
		{"1000000.000000001", 0, api.ErrGreat},
		{"1000000.0000000010000000000000001", 0, api.ErrGreat},
		{"1000001", 0, api.ErrGreat},
		{"9223372036.854775807", 0, api.ErrGreat}, // 2^63 - 1 billionths
		{"9223372036.854775808", 0, api.ErrGreat},
		{"18446744073.709551616", 0, api.ErrGreat}, // 2^64 billionths
		{"18446744073.709551617", 0, api.ErrGreat},
		{"4294967296", 0, api.ErrGreat},
		{"18446744073709551616", 0, api.ErrGreat},
		{"18446744073709551617/3", 0, api.ErrGreat},
		{"1e300", 0, api.ErrGreat},
		{"-1", 0, api.ErrArg},
		{"-0.0000000001", 0, api.ErrArg},
		{"-1e-300", 0, api.ErrArg},
		{"-1000001", 0, api.ErrArg},
		{"-1e300", 0, api.ErrArg},
	} {
		x := ratioOf(rat(c.x))
		if got := billionths(x); !got.equal(answer{n: c.n, e: c.e}) {
			t.Errorf("Billionths of %s = %v", c.x, got)
		}
		wantBillionths(t, x)
	}
}

// Numbers just below and just above a number of billionths, by steps of any size.
func TestP17_3BillionthsAroundNumbers(t *testing.T) {
	for _, n := range append(edges(), most+1, most+2) {
		at := frac(n, unit)
		for _, step := range []string{"1e-9", "0.999999999e-9", "1/3", "1/3000000000", "1e-10", "1e-18", "1e-19", "1e-38", "1e-300", "1e-500"} {
			more := new(big.Rat).Add(at, rat(step))
			wantBillionths(t, ratioOf(more))
			less := new(big.Rat).Sub(at, rat(step))
			wantBillionths(t, ratioOf(less)) // which may be negative
			if n > 0 && n <= most && rat(step).Cmp(rat("1e-9")) < 0 && !billionths(ratioOf(less)).equal(answer{n: n - 1}) {
				t.Errorf("Billionths of %d billionths less %s: %v", n, step, billionths(ratioOf(less)))
			}
		}
		wantBillionths(t, ratioOf(at))
	}
}

func TestP17_3BillionthsOfManyNumbers(t *testing.T) {
	for n := range 60 {
		for d := 1; d < 60; d++ {
			wantBillionths(t, ratioOf(frac(n, d)))
			wantBillionths(t, ratioOf(frac(n, d*unit)))
			wantBillionths(t, ratioOf(frac(million*d-n, d)))
			wantBillionths(t, ratioOf(frac(million*d+n, d)))
		}
	}
	r := rand.New(rand.NewSource(90))
	for range 1500 {
		n := new(big.Int).Rand(r, power(uint(1+r.Intn(2880)), 0))
		d := new(big.Int).Rand(r, power(uint(1+r.Intn(2880)), 0))
		wantBillionths(t, over(n, d.Add(d, big.NewInt(1))))
		d.Rsh(n, uint(r.Intn(40))) // so that the quotient is of the size of those that are valid
		wantBillionths(t, over(n, d.Add(d, big.NewInt(1))))
	}
}

// invalid returns what ratio.Check rejects.
func invalid() []argument {
	return []argument{
		{"the zero value", api.Ratio{}},
		{"empty limbs", api.Ratio{Num: []uint32{}, Den: []uint32{}}},
		{"negative, without limbs", api.Ratio{Neg: true}},
		{"1 / 0", api.Ratio{Num: []uint32{1}}},
		{"-1 / 0", api.Ratio{Neg: true, Num: []uint32{1}}},
		{"5 / 0", api.Ratio{Num: []uint32{5}, Den: []uint32{}}},
		{"2/4", api.Ratio{Num: []uint32{2}, Den: []uint32{4}}},
		{"-2/4", api.Ratio{Neg: true, Num: []uint32{2}, Den: []uint32{4}}},
		{"3/3", api.Ratio{Num: []uint32{3}, Den: []uint32{3}}},
		{"0/2", api.Ratio{Den: []uint32{2}}},
		{"unit / unit", api.Ratio{Num: []uint32{unit}, Den: []uint32{unit}}},
		{"-0", api.Ratio{Neg: true, Den: []uint32{1}}},
		{"0 of one limb", api.Ratio{Num: []uint32{0}, Den: []uint32{1}}},
		{"1 of two limbs", api.Ratio{Num: []uint32{1, 0}, Den: []uint32{1}}},
		{"1/1 with 1 of two limbs below", api.Ratio{Num: []uint32{1}, Den: []uint32{1, 0}}},
		{"1/2 with 2 of three limbs below", api.Ratio{Num: []uint32{1}, Den: []uint32{2, 0, 0}}},
		{"1 / 0 of one limb", api.Ratio{Num: []uint32{1}, Den: []uint32{0}}},
		{"0 / 0 of one limb", api.Ratio{Num: []uint32{0}, Den: []uint32{0}}},
		{"97 limbs / 1", api.Ratio{Num: ones(97), Den: []uint32{1}}},
		{"-97 limbs / 1", api.Ratio{Neg: true, Num: ones(97), Den: []uint32{1}}},
		{"1 / 97 limbs", api.Ratio{Num: []uint32{1}, Den: ones(97)}},
		{"97 limbs / 97 limbs", api.Ratio{Num: shifted(97), Den: ones(97)}},
		{"91 limbs / 97 limbs", api.Ratio{Num: shifted(91), Den: ones(97)}},
		{"97 limbs / 0", api.Ratio{Num: ones(97)}},
		{"0 / 97 limbs", api.Ratio{Den: ones(97)}},
		{"91 limbs / 0", api.Ratio{Num: ones(91)}},
		{"0 / 91 limbs", api.Ratio{Den: ones(91)}},
		{"91 limbs / 91 limbs, equal", api.Ratio{Num: ones(91), Den: ones(91)}},
		{"91 limbs with a 0 in front", api.Ratio{Num: append(ones(90), 0), Den: []uint32{1}}},
		{"97 limbs with a 0 in front", api.Ratio{Num: append(ones(96), 0), Den: []uint32{1}}},
		{"90 limbs / 90 limbs, both even", api.Ratio{Num: shifted(90), Den: append(make([]uint32, 89), 3)}},
		{"96 limbs / 96 limbs, both even", api.Ratio{Num: shifted(96), Den: append(make([]uint32, 95), 3)}},
		{"a million limbs", api.Ratio{Num: ones(million), Den: ones(million)}},
	}
}

func TestP17_3NotValid(t *testing.T) {
	for _, a := range invalid() {
		if ratio.Check(a.x) == api.OK {
			t.Errorf("%s is valid", a.name)
		}
		if got := billionths(a.x); !got.isError(api.ErrArg) {
			t.Errorf("Billionths of %s = %v", a.name, got)
		}
		wantBillionths(t, a.x)
	}
}

// long returns valid numbers with parts of 89 limbs and more, of either sign.
func long() []argument {
	var l []argument
	add := func(name string, num, den []uint32) {
		l = append(l, argument{name, api.Ratio{Num: num, Den: den}}, argument{"negative: " + name, api.Ratio{Neg: true, Num: num, Den: den}})
	}
	sizes := []int{89, 90, 91, 92, 95, 96}
	for _, n := range sizes {
		add("ones / 1", ones(n), []uint32{1})
		add("ones / 2", ones(n), []uint32{2})
		add("power / 1", shifted(n), []uint32{1})
		add("1 / ones", []uint32{1}, ones(n))
		add("2 / ones", []uint32{2}, ones(n))
		add("1 / power", []uint32{1}, shifted(n))
		add("million / ones", []uint32{million - 1, 7}, ones(n))
		for _, d := range sizes {
			add("power / ones", shifted(n), ones(d))
			add("ones / power", ones(n), shifted(d))
		}
		add("near 1", append([]uint32{1}, ones(n-1)...), append([]uint32{2}, ones(n-1)...))
		add("near 1, from above", append([]uint32{2}, ones(n-1)...), append([]uint32{1}, ones(n-1)...))
	}
	return slices.DeleteFunc(l, func(a argument) bool { return ratio.Check(a.x) != api.OK })
}

func TestP17_3LongNumbers(t *testing.T) {
	outcomes := map[api.Errno]int{}
	for _, a := range long() {
		got := billionths(a.x)
		outcomes[got.e]++
		switch n, d := len(a.x.Num), len(a.x.Den); {
		case a.x.Neg:
			if !got.isError(api.ErrArg) {
				t.Errorf("%s, %d and %d limbs: %v", a.name, n, d, got)
			}
		case n > 90 || d > 90:
			if !got.isError(api.ErrGreat) {
				t.Errorf("%s, %d and %d limbs: %v", a.name, n, d, got)
			}
		case n > d+1:
			if !got.isError(api.ErrGreat) {
				t.Errorf("%s, %d and %d limbs: %v", a.name, n, d, got)
			}
		case d > n+1:
			if !got.equal(answer{}) {
				t.Errorf("%s, %d and %d limbs: %v", a.name, n, d, got)
			}
		}
		wantBillionths(t, a.x)
	}
	if outcomes[api.OK] < 15 || outcomes[api.ErrGreat] < 80 || outcomes[api.ErrArg] < 100 {
		t.Errorf("outcomes %v", outcomes)
	}
}

// With 90 limbs there is an answer, and with one limb more there is none, whatever the value.
func TestP17_3LimbsThatAreTooMany(t *testing.T) {
	for _, c := range []struct {
		num, den []uint32
		want     answer
	}{
		{shifted(90), append([]uint32{1}, shifted(89)...), answer{n: unit - 1}},
		{append([]uint32{1}, shifted(89)...), shifted(90), answer{n: unit}},
		{shifted(91), append([]uint32{1}, shifted(90)...), answer{e: api.ErrGreat}},
		{ones(90), shifted(91), answer{e: api.ErrGreat}}, // just below 1
		{shifted(91), ones(90), answer{e: api.ErrGreat}}, // just above 1
		{nil, []uint32{1}, answer{}},
		{[]uint32{1}, ones(90), answer{}},
		{[]uint32{1}, ones(91), answer{e: api.ErrGreat}},
		{[]uint32{1}, ones(96), answer{e: api.ErrGreat}},
		{ones(90), []uint32{1}, answer{e: api.ErrGreat}},
		{ones(91), []uint32{1}, answer{e: api.ErrGreat}},
		{ones(96), []uint32{1}, answer{e: api.ErrGreat}},
		{shifted(96), ones(96), answer{e: api.ErrGreat}},
		{ones(96), shifted(96), answer{e: api.ErrGreat}},
	} {
		x := api.Ratio{Num: c.num, Den: c.den}
		if got := billionths(x); !got.equal(c.want) {
			t.Errorf("%d and %d limbs: %v; want %v", len(c.num), len(c.den), got, c.want)
		}
		wantBillionths(t, x)
		if x.Neg = len(x.Num) > 0; x.Neg && !billionths(x).isError(api.ErrArg) {
			t.Errorf("%d and %d limbs, negative: %v", len(c.num), len(c.den), billionths(x))
		}
	}
}

// The greatest valid results, and those just too great, of numbers of 90 limbs.
func TestP17_3LongNumbersNearTheGreatest(t *testing.T) {
	den := new(big.Int).Div(power(32*90-30, 7), big.NewInt(million)) // so that a million of it has 90 limbs
	for _, n := range []int{1, unit, most - 1, most, most + 1, most + 2} {
		num := new(big.Int).Mul(den, big.NewInt(int64(n)))
		num.Div(num, big.NewInt(unit)) // rounded down
		for more := int64(-2); more <= 2; more++ {
			wantBillionths(t, over(new(big.Int).Add(num, big.NewInt(more)), den))
		}
	}
	one := shifted(90)
	one[0] = 3 // 2^2848 + 3
	for _, c := range []struct {
		times, more uint32
		want        answer
	}{
		{million - 1, 0, answer{n: most - unit - 1}}, // as 2^2848 is less than the denominator
		{million, 0, answer{n: most - 1}},
		{million, 3*million - 1, answer{n: most - 1}},
		{million, 3*million + 1, answer{n: most}},
		{million + 1, 0, answer{e: api.ErrGreat}},
	} {
		num := append([]uint32{c.more}, make([]uint32, 89)...)
		num[89] = c.times
		x := over(bigOf(num), bigOf(one))
		if got := billionths(x); !got.equal(c.want) || len(x.Num) != 90 || len(x.Den) != 90 {
			t.Errorf("%d and %d limbs: %v; want %v", len(x.Num), len(x.Den), got, c.want)
		}
		wantBillionths(t, x)
	}
}
