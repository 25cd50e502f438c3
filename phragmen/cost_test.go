package phragmen_test

import (
	"math"
	"math/big"
	"math/rand"
	"slices"
	"testing"

	"suffrage/api"
	"suffrage/phragmen"
	"suffrage/ratio"
)

// P21.3

func TestP21_3TheExample(t *testing.T) {
	p := theExample() // the rows are 0, 0 1 and 2
	for x, want := range []string{"1/5", "1/3", "1/4"} {
		checkCost(t, p, numbers("0 0 0"), x, want)
	}
	for x, want := range []string{"2/5", "8/15", "1/4"} { // also of one that is elected
		checkCost(t, p, numbers("1/5 1/5 0"), x, want)
	}
	for x, want := range []string{"2/5", "8/15", "1/2"} {
		checkCost(t, p, numbers("1/5 1/5 1/4"), x, want)
	}
}

func TestP21_3AnyLoads(t *testing.T) {
	p := of(4, 2, row(5), row(1, 0), row(2, 0, 1), row(3, 1), row(4, 1, 2))
	for _, c := range []struct {
		loads string
		x     int
		want  string
	}{
		{"0 0 0 0 0", 0, "1/3"},
		{"0 0 0 0 0", 1, "1/9"},
		{"0 0 0 0 0", 2, "1/4"},
		{"9 1 1 1 1", 0, "4/3"},
		{"9 1 1 1 1", 1, "10/9"},
		{"9 1 1 1 1", 2, "5/4"},
		{"-7 1/2 1/3 1/5 1/7", 0, "13/18"},
		{"-7 1/2 1/3 1/5 1/7", 1, "298/945"},
		{"-7 1/2 1/3 1/5 1/7", 2, "11/28"},
		{"0 99 0 0 0", 1, "1/9"}, // the other loads do not matter
		{"0 99 0 0 0", 0, "100/3"},
		{"0 99 99 99 0", 2, "1/4"},
		{"0 -1 0 0 0", 0, "0"}, // loads that make the cost 0, or negative
		{"0 1 -1 0 0", 0, "0"},
		{"0 0 -1/2 0 0", 0, "0"},
		{"0 0 -1 0 0", 0, "-1/3"},
		{"0 -1/2 -1/3 0 0", 0, "-1/18"},
		{"0 0 0 0 -1/4", 2, "0"},
		{"0 0 0 0 -1/2", 2, "-1/4"},
		{"0 0 2 -1 0", 1, "2/9"},
		{"0 0 18446744073709551616 0 0", 1, "36893488147419103233/9"},
		{"0 0 0 0 1/18446744073709551616", 2, "4611686018427387905/18446744073709551616"},
	} {
		checkCost(t, p, numbers(c.loads), c.x, c.want)
	}
}

func TestP21_3ManyBallots(t *testing.T) {
	for _, n := range []int64{1, 2, 3, 255, 256, 65536, million - 1, million} {
		p := of(1, 2, row(int(n), 0))
		for _, load := range []string{"0", "1", "1/2", "-1", "3/1000000", "1000000", "-1/999999", "7/340282366920938463463374607431768211457"} {
			want := new(big.Rat).Add(big.NewRat(1, 1), new(big.Rat).Mul(big.NewRat(n, 1), ratOf(number(load))))
			checkCost(t, p, numbers(load), 0, want.Mul(want, big.NewRat(1, n)).RatString())
		}
	}
	p := fullProfile(2)
	for x := range 10 {
		checkModelCost(t, p, numbers(zeros(64)), x)
		checkModelCost(t, p, loadsOf(t, p, downFrom(10)), x)
	}
}

// No support

// Without support there is no cost and no error, whatever the loads are.
func TestP21_3NoSupport(t *testing.T) {
	wrong := append(notNumbers(), api.Ratio{Num: longest(), Den: []uint32{1}}, api.Ratio{Num: []uint32{1}, Den: longest()})
	for cands := 2; cands <= 10; cands++ {
		for x := range cands {
			checkNoCost(t, of(cands, 2), nil, x, api.OK)
			checkNoCost(t, of(cands, 2), []api.Ratio{}, x, api.OK)
			for _, load := range append(wrong, number("1/2")) {
				checkNoCost(t, of(cands, 2, row(2)), []api.Ratio{load}, x, api.OK)
				checkNoCost(t, of(cands, 2, row(3, others(upTo(cands), x)...)), []api.Ratio{load}, x, api.OK)
				checkNoCost(t, of(cands, 2, row(2), row(million-2, (x+1)%cands)), []api.Ratio{load, load}, x, api.OK)
			}
		}
	}
	checkNoCost(t, of(1, 2), nil, 0, api.OK)
	checkNoCost(t, of(1, 2, row(1)), numbers("0"), 0, api.OK)
}

// Errors

func TestP21_3WrongProfiles(t *testing.T) {
	for _, p := range badProfiles() {
		zero := slices.Repeat(numbers("0"), min(len(p.Rows), 100))
		for _, x := range []int{0, 1, -1, 99} {
			checkNoCost(t, p, zero, x, api.ErrBad)
			checkNoCost(t, p, nil, x, api.ErrBad)
			checkNoCost(t, p, append(zero, api.Ratio{}), x, api.ErrBad)
		}
	}
	for kind := range 256 {
		if kind != 2 {
			checkNoCost(t, of(2, uint8(kind)), nil, 0, api.ErrBad)
			checkNoCost(t, of(2, uint8(kind), row(1, 0, 1)), numbers("0"), 0, api.ErrBad)
		}
	}
}

func TestP21_3WrongCandidates(t *testing.T) {
	for cands := 1; cands <= 10; cands++ {
		all := of(cands, 2, row(2, upTo(cands)...))
		for _, x := range noCandidates(cands) {
			checkNoCost(t, all, numbers("0"), x, api.ErrArg)
			checkNoCost(t, all, make([]api.Ratio, 1), x, api.ErrArg)
			checkNoCost(t, all, nil, x, api.ErrArg)
			checkNoCost(t, of(cands, 2), nil, x, api.ErrArg)
		}
		for x := range cands {
			checkCost(t, all, numbers("0"), x, "1/2")
		}
	}
}

func TestP21_3WrongNumbersOfLoads(t *testing.T) {
	blank := of(3, 2, row(1), row(1, 0), row(1, 1))
	for _, p := range []api.Profile{of(3, 2), of(3, 2, row(1)), of(3, 2, row(1, 0, 1)), theExample(), blank, fullProfile(2)} {
		for n := range 70 {
			if n == len(p.Rows) {
				continue
			}
			for x := range 3 {
				checkNoCost(t, p, slices.Repeat(numbers("1/2"), n), x, api.ErrArg)
				checkNoCost(t, p, make([]api.Ratio, n), x, api.ErrArg) // none of which is valid
			}
		}
		if len(p.Rows) > 0 {
			checkNoCost(t, p, nil, 0, api.ErrArg)
			checkNoCost(t, p, []api.Ratio{}, 0, api.ErrArg)
		}
	}
	checkNoCost(t, of(3, 2), make([]api.Ratio, 1), 0, api.ErrArg)
}

// longest returns the greatest number of 96 limbs.
func longest() []uint32 { return slices.Repeat([]uint32{math.MaxUint32}, 96) }

// notNumbers returns rational numbers that are not valid, of each sort.
func notNumbers() []api.Ratio {
	one, long := []uint32{1}, slices.Repeat([]uint32{1}, 97)
	return []api.Ratio{
		{},
		{Num: one},
		{Num: one, Den: []uint32{}},
		{Num: one, Den: []uint32{0}},
		{Num: one, Den: []uint32{1, 0}},
		{Num: []uint32{0}, Den: one},
		{Num: []uint32{1, 0}, Den: one},
		{Num: long, Den: one},
		{Num: one, Den: long},
		{Num: append(make([]uint32, 96), 0), Den: one},
		{Num: one, Den: append(slices.Clone(one), make([]uint32, 96)...)},
		{Neg: true, Den: one},
		{Den: []uint32{2}},
		{Num: []uint32{2}, Den: []uint32{2}},
		{Num: []uint32{2}, Den: []uint32{4}},
		{Neg: true, Num: []uint32{6}, Den: []uint32{9}},
		{Num: []uint32{0, 1}, Den: []uint32{2}},
		{Num: longest(), Den: longest()},
	}
}

// A load that is not valid is an error if its row supports the candidate, and is not looked at otherwise.
func TestP21_3LoadsThatAreNotValid(t *testing.T) {
	p := of(3, 2, row(1), row(2, 0), row(3, 0, 1), row(4, 1))
	for _, wrong := range notNumbers() {
		if e := ratio.Check(wrong); e != api.ErrBad {
			t.Fatal(textOf(wrong), int(e))
		}
		for at, r := range p.Rows {
			loads := numbers("1 1/2 1/3 1/4")
			loads[at] = wrong
			for x := range 2 {
				if slices.Contains(r.Marks, x) {
					checkNoCost(t, p, loads, x, api.ErrBad)
					continue
				}
				checkCost(t, p, loads, x, []string{"3/5", "3/7"}[x])
			}
			checkNoCost(t, p, loads, 2, api.OK)
		}
	}
}

// power returns 2 to the power of n, plus more.
func power(n uint, more int64) *big.Int {
	x := new(big.Int).Lsh(big.NewInt(1), n)
	return x.Add(x, big.NewInt(more))
}

// over returns the number a / b.
func over(a, b *big.Int) api.Ratio { return ratioOf(new(big.Rat).SetFrac(a, b)) }

// whole returns the number a.
func whole(a *big.Int) api.Ratio { return over(a, big.NewInt(1)) }

func minus(a *big.Int) *big.Int { return new(big.Int).Neg(a) }

// Numbers that are too great, and others that are just not.
func TestP21_3TheLimits(t *testing.T) {
	const full = 96 * 32
	one, two := of(1, 2, row(1, 0)), of(1, 2, row(2, 0))
	both := of(2, 2, row(1, 0), row(1, 0, 1))
	most, half := power(full, -1), power(full/2, 0)
	two64 := power(64, 0)
	for _, c := range []struct {
		name  string
		p     api.Profile
		loads []api.Ratio
		e     api.Errno
	}{
		{"a product of 96 limbs", two, []api.Ratio{whole(power(full-1, -1))}, api.OK},
		{"a product of 97 limbs", two, []api.Ratio{whole(power(full-1, 0))}, api.ErrGreat},
		{"a negative product of 96 limbs", two, []api.Ratio{whole(minus(power(full-1, -1)))}, api.OK},
		{"a negative product of 97 limbs", two, []api.Ratio{whole(minus(power(full-1, 0)))}, api.ErrGreat},
		{"a product of a million and 96 limbs", of(1, 2, row(million, 0)), []api.Ratio{whole(new(big.Int).Quo(most, big.NewInt(million)))}, api.OK},
		{"a product of a million and more", of(1, 2, row(million, 0)), []api.Ratio{whole(new(big.Int).Add(new(big.Int).Quo(most, big.NewInt(million)), big.NewInt(1)))}, api.ErrGreat},
		{"a product that is too great ahead of its lowest terms", two, []api.Ratio{over(power(full-1, 1), big.NewInt(2))}, api.ErrGreat},
		{"a product that is not too great ahead of its lowest terms", two, []api.Ratio{over(power(full-1, -1), big.NewInt(2))}, api.OK},
		{"a sum of 96 limbs", one, []api.Ratio{whole(power(full, -2))}, api.OK},
		{"a sum of 97 limbs", one, []api.Ratio{whole(most)}, api.ErrGreat},
		{"a sum that is less than the load", one, []api.Ratio{whole(minus(most))}, api.OK},
		{"a sum with a long denominator", one, []api.Ratio{over(big.NewInt(-1), most)}, api.OK},
		{"a sum that is too great by its numerator", one, []api.Ratio{over(big.NewInt(1), most)}, api.ErrGreat},
		{"a sum with long denominators", both, []api.Ratio{over(big.NewInt(-1), power(full/2, -1)), over(big.NewInt(-1), half)}, api.ErrGreat}, // by the quotient
		{"a sum with long denominators, which are 32 bits less", both, []api.Ratio{over(big.NewInt(-1), power(full/2-16, -1)), over(big.NewInt(-1), power(full/2-16, 0))}, api.OK},
		{"a sum that is too great by its denominators", both, []api.Ratio{over(big.NewInt(-1), power(full/2, 1)), over(big.NewInt(-1), half)}, api.ErrGreat},
		{"a sum that is too great by a product across", both, []api.Ratio{whole(power(full/2, 0)), over(big.NewInt(-1), half)}, api.ErrGreat},
		{"a sum that is not too great by a product across", both, []api.Ratio{whole(power(full/2, -3)), over(big.NewInt(-1), power(full/2-1, 0))}, api.OK},
		{"a quotient with a long denominator", two, []api.Ratio{over(big.NewInt(-1), power(full-1, -1))}, api.OK},
		{"a quotient that is too great by its denominator", two, []api.Ratio{over(big.NewInt(-1), most)}, api.ErrGreat},
		{"a quotient that is too great ahead of its lowest terms", both, []api.Ratio{over(big.NewInt(-1), most), number("0")}, api.ErrGreat},
		{"a quotient with a support of three", of(1, 2, row(3, 0)), []api.Ratio{over(big.NewInt(-1), new(big.Int).Sub(new(big.Int).Quo(most, big.NewInt(3)), big.NewInt(1)))}, api.OK},
		{"limbs that are full", one, []api.Ratio{whole(new(big.Int).Sub(two64, big.NewInt(1)))}, api.OK},
	} {
		t.Run(c.name, func(t *testing.T) {
			if ok, e := checkModelCost(t, c.p, c.loads, 0); e != c.e || ok != (e == api.OK) {
				t.Errorf("Cost is %v, %d; want %d", ok, int(e), int(c.e))
			}
			if c.e != api.OK {
				checkNoCost(t, c.p, c.loads, 0, c.e)
			}
		})
	}
}

// The sum starts with 1, and goes on in the order of the rows, product before sum; the first operation that fails decides.
func TestP21_3TheOrderOfOperations(t *testing.T) {
	const full = 96 * 32
	most := whole(power(full, -1))
	least := ratioOf(new(big.Rat).Neg(ratOf(most)))
	wrong := api.Ratio{Num: []uint32{2}, Den: []uint32{2}}
	tooMany := whole(power(full-1, 0)) // if there are two ballots
	p := of(4, 2, row(1, 0), row(2, 0, 1), row(1, 0, 2), row(1, 3))
	for _, c := range []struct {
		name  string
		loads []api.Ratio
		e     api.Errno
	}{
		{"all are fine", []api.Ratio{least, number("0"), most, wrong}, api.OK},
		{"the order of the rows", []api.Ratio{most, number("0"), least, wrong}, api.ErrGreat}, // though all of them add up to 1
		{"1 comes first", []api.Ratio{whole(power(full, -2)), number("0"), least, wrong}, api.OK},
		{"1 comes first, and not last", []api.Ratio{whole(minus(power(full, -1))), number("-1/2"), most, wrong}, api.OK},
		{"a wrong load before a great one", []api.Ratio{wrong, tooMany, number("0"), number("0")}, api.ErrBad},
		{"a great load before a wrong one", []api.Ratio{number("0"), tooMany, wrong, number("0")}, api.ErrGreat},
		{"a great sum before a wrong load", []api.Ratio{most, wrong, number("0"), number("0")}, api.ErrGreat},
		{"a great sum before the next product", []api.Ratio{most, tooMany, wrong, wrong}, api.ErrGreat},
		{"a wrong load before a great sum", []api.Ratio{number("-1"), wrong, most, most}, api.ErrBad},
		{"a wrong load last", []api.Ratio{number("-1"), number("1"), wrong, most}, api.ErrBad},
		{"a wrong load before a great quotient", []api.Ratio{over(big.NewInt(-1), power(full, -1)), number("0"), wrong, number("0")}, api.ErrBad},
		{"a great quotient", []api.Ratio{over(big.NewInt(-1), power(full, -1)), number("0"), number("0"), wrong}, api.ErrGreat},
	} {
		t.Run(c.name, func(t *testing.T) {
			if ok, e := checkModelCost(t, p, c.loads, 0); e != c.e || ok != (e == api.OK) {
				t.Errorf("Cost is %v, %d; want %d", ok, int(e), int(c.e))
			}
			if c.e != api.OK {
				checkNoCost(t, p, c.loads, 0, c.e)
			}
		})
	}
	checkCost(t, p, []api.Ratio{least, number("0"), most, wrong}, 0, "1/4")
	checkCost(t, p, []api.Ratio{wrong, number("0"), number("1"), tooMany}, 1, "1/2")
	checkCost(t, p, []api.Ratio{wrong, wrong, number("1"), tooMany}, 2, "2")
}

// The load times the number of ballots is added once, in lowest terms; not the load as often as there are ballots.
func TestP21_3ProductsAreInLowestTerms(t *testing.T) {
	two := of(1, 2, row(2, 0))
	checkModelCost(t, two, []api.Ratio{over(big.NewInt(1), power(3070, 0))}, 0)
	checkCost(t, two, []api.Ratio{over(big.NewInt(1), power(1536, 0))}, 0, new(big.Rat).SetFrac(power(1535, 1), power(1536, 0)).RatString())
	if cost, ok, e := phragmen.Cost(two, []api.Ratio{over(big.NewInt(1), power(3071, 0))}, 0); !sameNumber(cost, over(power(3070, 1), power(3071, 0))) || !ok || e != api.OK {
		t.Errorf("the cost is %s, %v, %d", textOf(cost), ok, int(e))
	}
}

// randomLoad returns a number, often a long one, and sometimes one that is not valid.
func randomLoad(random *rand.Rand) api.Ratio {
	long := func() *big.Int {
		bits := []uint{1, 8, 31, 32, 33, 64, 500, 1500, 1536, 3050, 3071, 3072}[random.Intn(12)]
		return new(big.Int).Add(new(big.Int).Rand(random, power(bits, 0)), big.NewInt(int64(random.Intn(2))))
	}
	switch random.Intn(12) {
	case 0:
		l := notNumbers()
		return l[random.Intn(len(l))]
	case 1, 2, 3:
		return over(new(big.Int).Mul(long(), big.NewInt(int64(random.Intn(3)-1))), new(big.Int).Add(long(), big.NewInt(1)))
	case 4, 5:
		return whole(new(big.Int).Mul(long(), big.NewInt(int64(random.Intn(3)-1))))
	}
	return ratioOf(big.NewRat(int64(random.Intn(41)-20), int64(1+random.Intn(9))))
}

func TestP21_3RandomLoads(t *testing.T) {
	random := rand.New(rand.NewSource(2131))
	seen := map[api.Errno]int{}
	none := 0
	for range 8000 {
		p := anyProfile(random)
		var loads []api.Ratio
		for range p.Rows {
			loads = append(loads, randomLoad(random))
		}
		if random.Intn(2) == 0 {
			for i := range loads[min(len(loads), 3):] { // so that few are long
				loads[min(len(loads), 3)+i] = number("1/3")
			}
		}
		ok, e := checkModelCost(t, p, loads, random.Intn(p.Cands))
		seen[e]++
		if !ok && e == api.OK {
			none++
		}
	}
	if seen[api.OK] < 1500 || seen[api.ErrBad] < 500 || seen[api.ErrGreat] < 500 || none < 200 {
		t.Errorf("the errors are %v, and %d times there is no support", seen, none)
	}
}

// With the loads of a count, costs are those of its next round.
func TestP21_3CostsOfACount(t *testing.T) {
	random := rand.New(rand.NewSource(2132))
	for range 400 {
		p := anyProfile(random)
		o := count(t, p, p.Cands, random.Perm(p.Cands))
		for at, r := range o.Rounds {
			loads := loadsOf(t, p, o.Elected[:at])
			for _, c := range o.Elected[at:] {
				cost, ok, e := phragmen.Cost(p, loads, c)
				if !ok {
					cost = number("0")
				}
				if e != api.OK || !sameNumber(cost, r.Had[c]) {
					t.Errorf("Cost(%s, %s, %d) = %s, %v, %d in %s", show(p), textsOf(loads), c, textOf(cost), ok, int(e), tell(o))
				}
			}
		}
	}
}
