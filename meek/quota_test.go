package meek_test

import (
	"math"
	"math/big"
	"math/rand"
	"slices"
	"testing"

	"suffrage/api"
	"suffrage/meek"
)

// P19.2, Quota

func checkQuota(t *testing.T, votes, lost, seats int) {
	t.Helper()
	got, e := meek.Quota(votes, lost, seats)
	if want, wantE := modelQuota(votes, lost, seats); got != want || e != wantE {
		t.Errorf("Quota(%d, %d, %d) = %d, %d; want %d, %d", votes, lost, seats, got, int(e), want, int(wantE))
	}
}

func checkNoQuota(t *testing.T, votes, lost, seats int) {
	t.Helper()
	if got, e := meek.Quota(votes, lost, seats); got != 0 || e != api.ErrArg {
		t.Errorf("Quota(%d, %d, %d) = %d, %d; want 0, 2", votes, lost, seats, got, int(e))
	}
	checkQuota(t, votes, lost, seats)
}

func TestP19_2Quota(t *testing.T) {
	for _, c := range []struct{ votes, lost, seats, want int }{
		{10, 0, 2, 3333333334}, // the example's
		{10, 0, 1, 5000000001}, // an exact quotient, and 1
		{10, 0, 4, 2000000001},
		{10, unit, 2, 3000000001},
		{10, unit, 1, 4500000001},
		{10, 1, 1, 5000000000}, // half a billionth below an exact one
		{10, 2, 1, 5000000000},
		{10, 3, 1, 4999999999},
		{10, 1, 2, 3333333334}, // an exact quotient
		{10, 2, 2, 3333333333},
		{10, 5 * unit, 2, 1666666667},
		{147, 6864731543, 4, 28027053692},
		// Nothing is left.
		{10, 10 * unit, 2, 1},
		{10, 10*unit - 1, 2, 1},
		{10, 10*unit - 2, 2, 1},
		{10, 10*unit - 3, 2, 2},
		{10, 10*unit - 10, 10, 1},
		{10, 10*unit - 11, 10, 2},
		{0, 0, 1, 1},
		{0, 0, 10, 1},
		{1, 0, 1, 500000001},
		{1, 0, 10, 90909091},
		{1, unit, 1, 1},
		{1, unit - 1, 1, 1},
		{1, unit - 2, 1, 2},
		// At the limit.
		{million, 0, 1, 500000*unit + 1},
		{million, 0, 2, 333333333333334},
		{million, 0, 10, 90909090909091},
		{million, most, 10, 1},
		{million, most - 11, 10, 2},
		{million, 1, 1, 500000 * unit},
		{million - 1, 0, 1, 499999500000001},
	} {
		if got, e := meek.Quota(c.votes, c.lost, c.seats); got != c.want || e != api.OK {
			t.Errorf("Quota(%d, %d, %d) = %d, %d; want %d", c.votes, c.lost, c.seats, got, int(e), c.want)
		}
		checkQuota(t, c.votes, c.lost, c.seats)
	}
}

// Each argument at its limits, one beyond them, and far beyond, with the others inside and outside of theirs.
func TestP19_2QuotaAtTheLimits(t *testing.T) {
	right := 0
	for _, votes := range append(wilds(), 5, 10) {
		losses := append(wilds(), votes)
		for _, more := range []int{-2, -1, 0, 1, 2} {
			losses = append(losses, votes*unit+more) // which may wrap round
		}
		for _, lost := range losses {
			for _, seats := range append(wilds(), 4, 5) {
				checkQuota(t, votes, lost, seats)
				if _, e := meek.Quota(votes, lost, seats); e == api.OK {
					right++
				}
			}
		}
	}
	if right < 500 {
		t.Errorf("%d calls are right", right)
	}
}

func TestP19_2QuotaOfWrongArguments(t *testing.T) {
	for _, c := range [][3]int{
		{-1, 0, 1}, {million + 1, 0, 1}, {math.MinInt, 0, 1}, {math.MaxInt, 0, 1}, {-1, -1, 1}, {-1, -unit, 1},
		{5, -1, 1}, {5, 5*unit + 1, 1}, {5, math.MinInt, 1}, {5, math.MaxInt, 1}, {0, 1, 1}, {0, -1, 1}, {million, most + 1, 1},
		{5, 3, 0}, {5, 3, -1}, {5, 3, -2}, {5, 3, 11}, {5, 3, math.MinInt}, {5, 3, math.MaxInt},
		{0, 0, 0}, {-1, -1, -1}, {million + 1, most + 1, 11},
		{5 + 1<<32, 3, 1}, {5 - 1<<32, 3, 1}, {5, 3 - 1<<32, 1}, {5, 3 + 1<<62, 1}, {5, 3, 1 + 1<<32}, {5, 3, 1 + 1<<62}, {5, 3, 1 + 1<<8}, {1 << 62, 0, 1}, {1 << 55, 0, 1},
	} {
		checkNoQuota(t, c[0], c[1], c[2])
	}
}

// The quota is the least number that at most as many candidates as there are seats can have of what is not lost.
func TestP19_2QuotaIsTheLeast(t *testing.T) {
	random := rand.New(rand.NewSource(1923))
	for range 40000 {
		votes := random.Intn(1 + []int{10, 1000, million}[random.Intn(3)])
		lost := random.Intn(votes*unit + 1)
		if random.Intn(4) == 0 {
			lost = votes*unit - random.Intn(min(votes*unit, 50)+1)
		}
		seats := 1 + random.Intn(10)
		checkQuota(t, votes, lost, seats)
		left := big.NewInt(int64(votes*unit - lost))
		times := func(n int) *big.Int { return big.NewInt(int64(n) * int64(seats+1)) }
		if quota, e := meek.Quota(votes, lost, seats); e != api.OK || times(quota).Cmp(left) <= 0 || times(quota-1).Cmp(left) > 0 {
			t.Errorf("Quota(%d, %d, %d) = %d, %d", votes, lost, seats, quota, int(e))
		}
	}
}

// Who is elected, unless the rest is, has the quota of the last turn of the round; and in a round that eliminates a candidate, no hopeful one has it.
func TestP19_2TheQuotaOfACount(t *testing.T) {
	random := rand.New(rand.NewSource(1924))
	elected, eliminated := 0, 0
	for range 4000 {
		p := anyProfile(random)
		seats := 1 + random.Intn(p.Cands)
		o := run(t, p, seats, random.Perm(p.Cands))
		var gone []int
		for _, r := range o.Rounds {
			quota, e := meek.Quota(modelVotes(p), billionthsOf(r.Lost), seats)
			if e != api.OK {
				t.Fatalf("the count of %s: %s has no quota", show(p), tell(o))
			}
			rest := p.Cands-len(gone) == len(r.Elected)
			for c, x := range r.Had {
				n := billionthsOf(x)
				switch {
				case slices.Contains(r.Elected, c) && !rest:
					elected++
					if n < quota {
						t.Errorf("the count of %s, quota %d: %d in %s", show(p), quota, c, tell(o))
					}
				case len(r.Out) > 0 && !slices.Contains(gone, c):
					eliminated++
					if n >= quota {
						t.Errorf("the count of %s, quota %d: %d in %s", show(p), quota, c, tell(o))
					}
				}
			}
			gone = append(gone, append(r.Elected, r.Out...)...)
		}
	}
	if elected < 1000 || eliminated < 1000 {
		t.Errorf("%d candidates are elected with the quota, and %d have not got it when one is eliminated", elected, eliminated)
	}
}

// billionthsOf returns the fixed-point number that x is.
func billionthsOf(x api.Ratio) int {
	n := new(big.Rat).Mul(ratOf(x), big.NewRat(unit, 1))
	if !n.IsInt() {
		panic("no fixed-point number: " + n.String())
	}
	return int(n.Num().Int64())
}
