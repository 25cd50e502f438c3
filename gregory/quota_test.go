package gregory_test

import (
	"math"
	"math/rand"
	"slices"
	"strconv"
	"testing"

	"suffrage/api"
	"suffrage/gregory"
	"suffrage/profile"
)

// P18.2, Quota

func checkQuota(t *testing.T, p api.Profile, seats, want int) {
	t.Helper()
	if q, e := gregory.Quota(p, seats); q != want || e != api.OK {
		t.Errorf("the quota of %s, %d seats: %d, %d; want %d", show(p), seats, q, int(e), want)
	}
	if q, e := modelQuota(p, seats); q != want || e != api.OK {
		t.Errorf("the model's quota of %s, %d seats: %d, %d; want %d", show(p), seats, q, int(e), want)
	}
}

func checkNoQuota(t *testing.T, p api.Profile, seats int, want api.Errno) {
	t.Helper()
	if q, e := gregory.Quota(p, seats); q != 0 || e != want {
		t.Errorf("the quota of %s, %d seats: %d, %d; want 0, %d", show(p), seats, q, int(e), int(want))
	}
}

func TestP18_2Quota(t *testing.T) {
	checkQuota(t, theExample(), 2, 4)
	for _, c := range []struct {
		p     api.Profile
		seats int
		want  int
	}{
		{ranks(3), 1, 1},
		{ranks(3), 10, 1},
		{ranks(3, row(9)), 1, 1},
		{ranks(3, row(million)), 3, 1},
		{ranks(1, row(1, 0)), 1, 1},
		{ranks(1, row(2, 0)), 1, 2},
		{ranks(1, row(3, 0)), 1, 2},
		{ranks(1, row(4, 0)), 1, 3},
		{ranks(3, row(11, 0)), 2, 4},
		{ranks(3, row(12, 0)), 2, 5},
		{ranks(3, row(12, 0)), 3, 4}, // as many seats as candidates
		{ranks(3, row(12, 0)), 4, 3}, // and one more
		{ranks(3, row(12, 0)), 10, 2},
		{ranks(3, row(10, 0)), 10, 1},
		{ranks(10, row(100, 9)), 3, 26},
		{ranks(2, row(50), row(12, 0)), 2, 5}, // blank ballots are no votes
		{ranks(2, row(million-1), row(1, 0)), 1, 1},
		{ranks(2, row(1), row(million-1, 0)), 1, 500000},
		{ranks(2, row(million, 0)), 1, 500001},
		{ranks(2, row(million, 0)), 10, 90910},
		{fullProfile(1), 3, 250001},
		{unevenProfile(), 10, 90910},
		{ranks(3, row(3, 0), row(4, 0, 1), row(5, 2, 1, 0)), 2, 5}, // whatever the ballots rank
	} {
		checkQuota(t, c.p, c.seats, c.want)
	}
}

func TestP18_2QuotaOfAnyVotes(t *testing.T) {
	for votes := range 150 {
		for seats := range 13 {
			p := ranks(3, row(5))
			if votes > 0 {
				p = ranks(3, row(5), row(votes, 2, 0))
			}
			if seats < 1 || seats > 10 {
				checkNoQuota(t, p, seats, api.ErrArg)
				continue
			}
			quota := 1
			for (seats+1)*quota <= votes { // not more than all votes, so that one candidate more than there are seats may have it
				quota++
			}
			checkQuota(t, p, seats, quota)
		}
	}
	random := rand.New(rand.NewSource(1821))
	for range 3000 {
		p := anyProfile(random)
		seats := 1 + random.Intn(10)
		want, _ := modelQuota(p, seats)
		checkQuota(t, p, seats, want)
	}
}

func TestP18_2QuotaOfWrongSeats(t *testing.T) {
	for _, p := range []api.Profile{ranks(1), theExample(), ranks(10, row(2, 9)), fullProfile(1)} {
		for _, seats := range append(wilds(), 1+1<<8, 1+1<<16, 1+1<<62, 3-1<<32) {
			if seats >= 1 && seats <= 10 {
				want, _ := modelQuota(p, seats)
				checkQuota(t, p, seats, want)
				continue
			}
			checkNoQuota(t, p, seats, api.ErrArg)
		}
	}
}

func TestP18_2QuotaOfWrongProfiles(t *testing.T) {
	for want, l := range wrongProfiles() {
		for _, p := range l {
			if e := profile.Check(p); e != want {
				t.Errorf("the error of %s is %d; want %d", show(p), int(e), int(want))
			}
			for _, seats := range []int{1, 2, 10, 0, -1, 11, math.MinInt, math.MaxInt} {
				checkNoQuota(t, p, seats, api.ErrBad)
			}
		}
	}
	for kind := range 256 {
		for _, p := range []api.Profile{of(2, uint8(kind)), of(2, uint8(kind), row(1, 0, 1)), of(1, uint8(kind), row(1, 0))} {
			for _, seats := range []int{1, 0, 11} {
				switch {
				case kind != 1:
					checkNoQuota(t, p, seats, api.ErrBad)
				case seats != 1:
					checkNoQuota(t, p, seats, api.ErrArg)
				default:
					checkQuota(t, p, seats, 1)
				}
			}
		}
	}
	checkNoQuota(t, fullProfile(2), 1, api.ErrBad)
	checkNoQuota(t, fullProfile(3), 1, api.ErrBad)
}

// The quota of a count is that of its profile: whoever has it in a round is elected, unless another one has more, and is left with it.
func TestP18_2TheQuotaOfACount(t *testing.T) {
	random := rand.New(rand.NewSource(1822))
	elected := 0
	for range 3000 {
		p := anyProfile(random)
		seats := 1 + random.Intn(p.Cands)
		quota, e := gregory.Quota(p, seats)
		o := run(t, p, seats, random.Perm(p.Cands))
		for i, r := range o.Rounds[:len(o.Rounds)-1] {
			for _, c := range r.Elected {
				elected++
				if e != api.OK || ratOf(r.Had[c]).Cmp(ratOf(exactly(strconv.Itoa(quota)))) < 0 || !sameNumber(o.Rounds[i+1].Had[c], exactly(strconv.Itoa(quota))) {
					t.Errorf("the count of %s, quota %d: %s", show(p), quota, tell(o))
				}
			}
			for c, n := range r.Had {
				if len(r.Out) > 0 && !slices.Contains(o.Elected, c) && ratOf(n).Cmp(ratOf(exactly(strconv.Itoa(quota)))) >= 0 {
					t.Errorf("the count of %s, quota %d: %d in %s", show(p), quota, c, tell(o))
				}
			}
		}
	}
	if elected < 1000 {
		t.Errorf("%d candidates are elected with the quota", elected)
	}
}
