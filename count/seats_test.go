package count_test

import (
	"math"
	"math/rand"
	"slices"
	"testing"

	"suffrage/api"
)

// P22.2: Seats

func electing(l ...int) api.Outcome { return api.Outcome{Elected: l} }

func TestP22_2Seats(t *testing.T) {
	checkSeats(t, electing(), 1, 0)
	checkSeats(t, electing(0), 1, 1)
	checkSeats(t, electing(0, 0, 0), 1, 3)
	checkSeats(t, electing(2), 3, 0, 0, 1)
	checkSeats(t, electing(2, 0), 3, 1, 0, 1)
	checkSeats(t, electing(0, 0, 1, 2, 0, 0, 1), 3, 4, 2, 1)
	checkSeats(t, electing(0, 0, 1, 2, 0, 0, 1), 5, 4, 2, 1, 0, 0)
	checkSeats(t, electing(9, 9, 0), 10, 1, 0, 0, 0, 0, 0, 0, 0, 0, 2)
	checkSeats(t, electing(downFrom(10)...), 10, 1, 1, 1, 1, 1, 1, 1, 1, 1, 1)
}

func TestP22_2SeatsOfNobody(t *testing.T) {
	for cands := 1; cands <= 10; cands++ {
		for _, elected := range [][]int{nil, {}, upTo(5)[:0]} {
			checkSeats(t, electing(elected...), cands, make([]int, cands)...)
		}
	}
}

func TestP22_2SeatsAmongHowMany(t *testing.T) {
	for _, cands := range wilds() {
		for _, o := range []api.Outcome{electing(), electing(0), longOutcome()} {
			if cands < 1 || cands > 10 {
				checkNoSeats(t, o, cands)
			} else {
				checkModelSeats(t, o, cands)
			}
		}
	}
	for _, cands := range []int{-1, 0, 11, 1<<32 + 3, 1<<8 + 3, math.MaxInt, math.MinInt} {
		checkNoSeats(t, electing(), cands)
		checkNoSeats(t, electing(-1), cands)
		checkNoSeats(t, electing(cands-1), cands)
	}
}

// One that is no candidate, alone, at the beginning, in the middle and at the end.
func TestP22_2SeatsOfNoCandidates(t *testing.T) {
	for cands := 1; cands <= 10; cands++ {
		for _, c := range noCandidates(cands) {
			checkNoSeats(t, electing(c), cands)
			for at := 0; at <= cands; at++ {
				checkNoSeats(t, electing(slices.Insert(upTo(cands), at, c)...), cands)
			}
			checkNoSeats(t, electing(c, c), cands)
		}
	}
}

// Nothing but Elected is looked at.
func TestP22_2SeatsAreThoseOfElected(t *testing.T) {
	for _, o := range wildOutcomes() {
		o.Elected = ints(1, 3, 1)
		checkSeats(t, o, 4, 0, 2, 0, 1)
		o.Elected = nil
		checkSeats(t, o, 2, 0, 0)
		o.Elected = ints(1, 3, 1)
		checkNoSeats(t, o, 3)
	}
}

func TestP22_2SeatsOfVeryMany(t *testing.T) {
	long := make([]int, 100_000)
	for i := range long {
		long[i] = i % 7
	}
	checkSeats(t, electing(long...), 8, 14286, 14286, 14286, 14286, 14286, 14285, 14285, 0)
	long[99_999] = 8
	checkNoSeats(t, electing(long...), 8)
}

func TestP22_2AllSeatsOfFewCandidates(t *testing.T) {
	for cands := -1; cands <= 4; cands++ {
		lists := [][]int{nil}
		for i := 0; i < len(lists) && len(lists[i]) < 3; i++ {
			for c := -1; c <= 4; c++ {
				lists = append(lists, append(slices.Clone(lists[i]), c))
			}
		}
		for _, l := range lists {
			checkModelSeats(t, electing(l...), cands)
		}
	}
}

func TestP22_2RandomSeats(t *testing.T) {
	random := rand.New(rand.NewSource(2221))
	right := 0
	for range 3000 {
		if e := checkModelSeats(t, randomOutcome(random, 1+random.Intn(12)), random.Intn(13)); e == api.OK {
			right++
		}
	}
	if right < 500 || right > 2500 {
		t.Errorf("%d are right", right)
	}
}
