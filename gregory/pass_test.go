package gregory_test

import (
	"math"
	"math/rand"
	"testing"

	"suffrage/api"
	"suffrage/gregory"
)

// P18.2, Pass

func checkPass(t *testing.T, value, n, quota int) {
	t.Helper()
	got, e := gregory.Pass(value, n, quota)
	if want, wantE := modelPass(value, n, quota); got != want || e != wantE {
		t.Errorf("Pass(%d, %d, %d) = %d, %d; want %d, %d", value, n, quota, got, int(e), want, int(wantE))
	}
}

func TestP18_2Pass(t *testing.T) {
	for _, c := range []struct{ value, n, quota, want int }{
		{unit, 6 * unit, 4 * unit, 333333333}, // the example's
		{unit, 10 * unit, 6 * unit, 400000000},
		{unit, 8 * unit, 6 * unit, 250000000},
		{400000000, 8 * unit, 6 * unit, 100000000},
		{unit, 3 * unit, unit, 666666666},
		{unit, 7 * unit, unit, 857142857},
		{571428571, 3999999997, 3 * unit, 142857142},
		{unit - 1, 3 * unit, unit, 666666666},
		{unit - 2, 3 * unit, unit, 666666665},
		{unit / 2, 3 * unit, unit, 333333333},
		// Nothing to pass on.
		{0, unit, unit, 0},
		{0, unit, 0, 0},
		{0, 1, 0, 0},
		{0, most, 1, 0},
		{unit, unit, unit, 0},
		{unit, most, most, 0},
		{unit, 1, 1, 0},
		{1, unit, unit, 0},
		{1, unit, 1, 0}, // just below one billionth
		// No quota: the old value.
		{unit, unit, 0, unit},
		{unit, 1, 0, unit},
		{unit, most, 0, unit},
		{unit - 1, most, 0, unit - 1},
		{1, most, 0, 1},
		{777, 999, 0, 777},
		// A billionth more or less.
		{unit, most, 1, unit - 1},
		{unit, most, most - 1, 0}, // 10^9 / 10^15
		{unit, most, most - million + 1, 0},
		{unit, most, most - million, 1},
		{unit, most, most - million - 1, 1},
		{unit, unit, 1, unit - 1},
		{unit, unit, unit - 1, 1},
		{unit, unit + 1, unit, 0},
		{unit, unit - 1, unit - 2, 1},
		{unit, 2, 1, unit / 2},
		{unit, 3, 1, 666666666},
		{unit, 3, 2, 333333333},
		{unit - 1, most - 1, 1, unit - 2},
		// More than 2^63 and 2^64 before the division.
		{unit, most, most / 2, unit / 2},
		{unit, most, most - 9223372037*1000, 9223372},
		{unit, most, most - 18446744073710, 18446744},
		{unit, most, most - 18446744073709, 18446744},
		{unit - 1, most - 1, most / 3, 666666666},
	} {
		if got, e := gregory.Pass(c.value, c.n, c.quota); got != c.want || e != api.OK {
			t.Errorf("Pass(%d, %d, %d) = %d, %d; want %d", c.value, c.n, c.quota, got, int(e), c.want)
		}
		checkPass(t, c.value, c.n, c.quota)
	}
}

// Each argument at its limits, one beyond them, and far beyond, with the others inside and outside of theirs.
func TestP18_2PassAtTheLimits(t *testing.T) {
	values := []int{math.MinInt, -1, 0, 1, 2, unit/2 - 1, unit / 2, unit - 1, unit, unit + 1, most, 1 << 62, math.MaxInt}
	numbers := []int{math.MinInt, math.MinInt + 1, -most, -1, 0, 1, 2, 3, unit - 1, unit, unit + 1, 1<<32 - 1, 1 << 32, 1<<32 + 1, most - 1, most, most + 1, 1 << 62, math.MaxInt - 1, math.MaxInt}
	right := 0
	for _, value := range values {
		for _, n := range numbers {
			quotas := append([]int{n / 2, n / 3}, numbers...)
			for _, more := range []int{-2, -1, 0, 1} {
				quotas = append(quotas, n+more) // which may wrap round
			}
			for _, quota := range quotas {
				checkPass(t, value, n, quota)
				if _, e := gregory.Pass(value, n, quota); e == api.OK {
					right++
				}
			}
		}
	}
	if right < 500 {
		t.Errorf("%d calls are right", right)
	}
}

func TestP18_2PassOfWrongArguments(t *testing.T) {
	for _, c := range [][3]int{
		{-1, 5, 3}, {unit + 1, 5, 3}, {math.MinInt, 5, 3}, {math.MaxInt, 5, 3},
		{5, 0, 0}, {5, -1, -1}, {5, -1, 0}, {5, most + 1, 3}, {5, math.MinInt, math.MinInt}, {5, math.MaxInt, 3},
		{5, 5, -1}, {5, 5, 6}, {5, most, most + 1}, {5, 1, 2}, {5, 5, math.MinInt}, {5, 5, math.MaxInt},
		{0, 0, 0}, {-1, 0, 0}, {-1, 5, 6}, {unit + 1, most + 1, most + 2},
		{5 + 1<<32, 5, 3}, {5 - 1<<32, 5, 3}, {5, 5 - 1<<32, 3}, {5, 5, 3 - 1<<32}, {5, 5 + 1<<62, 3}, {5, 5, 3 + 1<<62},
	} {
		if got, e := gregory.Pass(c[0], c[1], c[2]); got != 0 || e != api.ErrArg {
			t.Errorf("Pass(%d, %d, %d) = %d, %d; want 0, 2", c[0], c[1], c[2], got, int(e))
		}
		checkPass(t, c[0], c[1], c[2])
	}
}

func TestP18_2PassOfSmallNumbers(t *testing.T) {
	for value := range 25 {
		for n := 1; n < 25; n++ {
			for quota := range n + 1 {
				got, e := gregory.Pass(value, n, quota)
				if want := value * (n - quota) / n; got != want || e != api.OK {
					t.Errorf("Pass(%d, %d, %d) = %d, %d; want %d", value, n, quota, got, int(e), want)
				}
			}
		}
	}
}

func TestP18_2PassOfRandomNumbers(t *testing.T) {
	random := rand.New(rand.NewSource(1823))
	upTo := func(most int) int { return random.Intn(1 + random.Intn(most+1)) }
	for range 60000 {
		n := 1 + upTo(most-1)
		if random.Intn(3) == 0 {
			n = most - upTo(million)
		}
		checkPass(t, unit-upTo(unit), n, upTo(n))
		checkPass(t, upTo(unit), n, n-upTo(n))
	}
}

// What passes is never more than what is beyond the quota, and less than a billionth of each ballot is lost by rounding.
func TestP18_2PassKeepsTheQuota(t *testing.T) {
	random := rand.New(rand.NewSource(1824))
	for range 20000 {
		many := 1 + random.Intn(million)
		n := many * unit
		quota := 1 + random.Intn(n)
		value, e := gregory.Pass(unit, n, quota)
		if beyond := n - quota; e != api.OK || many*value > beyond || many*(value+1) <= beyond {
			t.Errorf("Pass of %d ballots, with a quota of %d: %d, %d", many, quota, value, int(e))
		}
	}
}
