package meek_test

import (
	"math"
	"math/big"
	"math/rand"
	"testing"

	"suffrage/api"
	"suffrage/meek"
)

// P19.2, Keep

func checkKeep(t *testing.T, keep, n, quota int) {
	t.Helper()
	got, e := meek.Keep(keep, n, quota)
	if want, wantE := modelKeep(keep, n, quota); got != want || e != wantE {
		t.Errorf("Keep(%d, %d, %d) = %d, %d; want %d, %d", keep, n, quota, got, int(e), want, int(wantE))
	}
}

func TestP19_2Keep(t *testing.T) {
	for _, c := range []struct{ keep, n, quota, want int }{
		{unit, 6 * unit, 3333333334, 555555556}, // the example's
		// Exact quotients.
		{unit, 10 * unit, 6 * unit, 600000000},
		{unit, 8 * unit, 6 * unit, 750000000},
		{600000000, 8 * unit, 6 * unit, 450000000},
		{450000000, 9 * unit, 6 * unit, 300000000},
		{3, 3 * unit, unit, 1},
		{unit, 2, 1, unit / 2},
		// Others, which are rounded up.
		{unit, 3 * unit, unit, 333333334},
		{unit, 3 * unit, 2 * unit, 666666667},
		{unit, 7 * unit, unit, 142857143},
		{unit / 2, 3 * unit, unit, 166666667},
		{unit - 1, 3 * unit, unit, 333333333},
		{unit - 2, 3 * unit, unit, 333333333},
		{unit - 3, 3 * unit, unit, 333333333},
		{unit - 4, 3 * unit, unit, 333333332},
		{571428571, 3999999997, 3 * unit, 428571429},
		{unit, 3, 1, 333333334},
		{unit, 3, 2, 666666667},
		{1, 3, 2, 1},
		{1, 3, 1, 1},
		{1, most, 1, 1}, // however little it is
		{1, most, most - 1, 1},
		{2, most, most - 1, 2},
		// Nothing.
		{0, unit, unit, 0},
		{0, unit, 0, 0},
		{0, 1, 1, 0},
		{0, most, 1, 0},
		{unit, unit, 0, 0},
		{unit, most, 0, 0},
		{unit, 1, 0, 0},
		{1, 1, 0, 0},
		// All that was kept before.
		{unit, unit, unit, unit},
		{unit, most, most, unit},
		{unit, 1, 1, unit},
		{unit - 1, most, most, unit - 1},
		{1, most, most, 1},
		{777, 999, 999, 777},
		// A billionth more or less.
		{unit, most, most - 1, unit},
		{unit, most, most - million + 1, unit},
		{unit, most, most - million, unit - 1},
		{unit, most, most - million - 1, unit - 1},
		{unit, most, 1, 1},
		{unit, most, million, 1},
		{unit, most, million + 1, 2},
		{unit, unit, unit - 1, unit - 1},
		{unit, unit, 1, 1},
		{unit, unit + 1, unit, unit},
		{unit, unit - 1, unit - 2, unit - 1},
		{unit - 1, most - 1, most - 2, unit - 1},
		// More than 2^63 and 2^64 before the division.
		{unit, most, most / 2, unit / 2},
		{unit, most, 9223372036, 9224},
		{unit, most, 9223372037, 9224},
		{unit, most, 18446744073, 18447},
		{unit, most, 18446744074, 18447},
		{unit, most, 9223372036854, 9223373},
		{unit, most, 18446744073710, 18446745},
		{unit - 1, most - 1, most / 3, 333333333},
	} {
		if got, e := meek.Keep(c.keep, c.n, c.quota); got != c.want || e != api.OK {
			t.Errorf("Keep(%d, %d, %d) = %d, %d; want %d", c.keep, c.n, c.quota, got, int(e), c.want)
		}
		checkKeep(t, c.keep, c.n, c.quota)
	}
}

// Each argument at its limits, one beyond them, and far beyond, with the others inside and outside of theirs.
func TestP19_2KeepAtTheLimits(t *testing.T) {
	keeps := []int{math.MinInt, -1, 0, 1, 2, unit/2 - 1, unit / 2, unit - 1, unit, unit + 1, most, 1 << 62, math.MaxInt}
	numbers := []int{math.MinInt, math.MinInt + 1, -most, -1, 0, 1, 2, 3, unit - 1, unit, unit + 1, 1<<32 - 1, 1 << 32, 1<<32 + 1, most - 1, most, most + 1, 1 << 62, math.MaxInt - 1, math.MaxInt}
	right := 0
	for _, keep := range keeps {
		for _, n := range numbers {
			quotas := append([]int{n / 2, n / 3}, numbers...)
			for _, more := range []int{-2, -1, 0, 1} {
				quotas = append(quotas, n+more) // which may wrap round
			}
			for _, quota := range quotas {
				checkKeep(t, keep, n, quota)
				if _, e := meek.Keep(keep, n, quota); e == api.OK {
					right++
				}
			}
		}
	}
	if right < 500 {
		t.Errorf("%d calls are right", right)
	}
}

func TestP19_2KeepOfWrongArguments(t *testing.T) {
	for _, c := range [][3]int{
		{-1, 5, 3}, {unit + 1, 5, 3}, {math.MinInt, 5, 3}, {math.MaxInt, 5, 3},
		{5, 0, 0}, {5, -1, -1}, {5, -1, 0}, {5, most + 1, 3}, {5, math.MinInt, math.MinInt}, {5, math.MaxInt, 3},
		{5, 5, -1}, {5, 5, 6}, {5, most, most + 1}, {5, 1, 2}, {5, 5, math.MinInt}, {5, 5, math.MaxInt},
		{0, 0, 0}, {-1, 0, 0}, {-1, 5, 6}, {unit + 1, most + 1, most + 2},
		{5 + 1<<32, 5, 3}, {5 - 1<<32, 5, 3}, {5, 5 - 1<<32, 3}, {5, 5, 3 - 1<<32}, {5, 5 + 1<<62, 3}, {5, 5, 3 + 1<<62},
	} {
		if got, e := meek.Keep(c[0], c[1], c[2]); got != 0 || e != api.ErrArg {
			t.Errorf("Keep(%d, %d, %d) = %d, %d; want 0, 2", c[0], c[1], c[2], got, int(e))
		}
		checkKeep(t, c[0], c[1], c[2])
	}
}

func TestP19_2KeepOfSmallNumbers(t *testing.T) {
	for keep := range 25 {
		for n := 1; n < 25; n++ {
			for quota := range n + 1 {
				got, e := meek.Keep(keep, n, quota)
				if want := (keep*quota + n - 1) / n; got != want || e != api.OK {
					t.Errorf("Keep(%d, %d, %d) = %d, %d; want %d", keep, n, quota, got, int(e), want)
				}
			}
		}
	}
}

// The result is the least number that, times n, is not less than the product.
func TestP19_2KeepOfRandomNumbers(t *testing.T) {
	random := rand.New(rand.NewSource(1925))
	upTo := func(most int) int { return random.Intn(1 + random.Intn(most+1)) }
	times := func(a, b int) *big.Int { return new(big.Int).Mul(big.NewInt(int64(a)), big.NewInt(int64(b))) }
	for range 60000 {
		n := 1 + upTo(most-1)
		if random.Intn(3) == 0 {
			n = most - upTo(million)
		}
		for _, c := range [][3]int{{unit - upTo(unit), n, n - upTo(n)}, {upTo(unit), n, upTo(n)}} {
			checkKeep(t, c[0], c[1], c[2])
			got, e := meek.Keep(c[0], c[1], c[2])
			if product := times(c[0], c[2]); e != api.OK || times(got, n).Cmp(product) < 0 || got > 0 && times(got-1, n).Cmp(product) >= 0 {
				t.Errorf("Keep(%d, %d, %d) = %d, %d", c[0], c[1], c[2], got, int(e))
			}
		}
	}
}

// With the new keep value, a candidate to which whole ballots come keeps the quota, and less than a billionth of each ballot beyond it.
func TestP19_2KeepComesToTheQuota(t *testing.T) {
	random := rand.New(rand.NewSource(1926))
	for range 20000 {
		many := 1 + random.Intn(million)
		n := many * unit
		quota := 1 + random.Intn(n)
		keep, e := meek.Keep(unit, n, quota)
		if e != api.OK || many*keep < quota || many*(keep-1) >= quota {
			t.Errorf("Keep of %d ballots, with a quota of %d: %d, %d", many, quota, keep, int(e))
		}
	}
}
