package lists_test

import (
	"testing"

	"suffrage/api"
)

// P20.3

func TestP20_3Hare(t *testing.T) {
	for _, c := range []allocation{
		{"the example", []int{53, 24, 23}, []int{0, 1, 2}, []int{0, 0, 0, 1, 2, 0, 1}, nil},
		{"the example with another lot", []int{53, 24, 23}, []int{2, 1, 0}, []int{0, 0, 0, 1, 2, 0, 1}, nil},
		{"six parties", []int{47000, 16000, 15800, 12000, 6100, 3100}, []int{5, 4, 3, 2, 1, 0}, []int{0, 0, 0, 0, 1, 2, 3, 0, 4, 1}, nil},
		{"one seat", []int{50, 30, 20}, []int{2, 1, 0}, []int{0}, nil},
		{"one vote", []int{0, 1, 0}, []int{0, 2, 1}, []int{1, 1, 1, 1, 1, 1, 1, 1, 1, 1}, nil},
		{"one vote of each of two", []int{1, 0, 1}, []int{1, 2, 0}, []int{0, 0, 2, 2, 2}, ties(tie(2, 0, 2))},
		{"one party", []int{3}, []int{0}, []int{0, 0, 0, 0, 0, 0, 0, 0, 0, 0}, nil},
		{"parties without votes", []int{0, 7, 0}, []int{0, 2, 1}, []int{1, 1, 1, 1}, nil},
		{"one party gets all", []int{48, 1, 1}, []int{2, 1, 0}, []int{0, 0, 0, 0, 0, 0, 0, 0, 0, 0}, nil},
		{"one party gets all by lot", []int{19, 1}, []int{0, 1}, []int{0, 0, 0, 0, 0, 0, 0, 0, 0, 0}, ties(tie(0, 0, 1))},
	} {
		t.Run(c.name, func(t *testing.T) { c.check(t, hare()) })
	}
}

func TestP20_3WhatRemains(t *testing.T) {
	for _, c := range []allocation{
		{"nothing, as the shares are exact", []int{50, 30, 20}, []int{2, 1, 0}, []int{0, 0, 0, 0, 0, 1, 1, 1, 2, 2}, nil},
		{"nothing, with a share of 0", []int{1, 0, 2}, []int{1, 2, 0}, []int{0, 0, 0, 2, 2, 2, 2, 2, 2}, nil},
		{"one seat", []int{52, 28, 20}, []int{2, 1, 0}, []int{0, 0, 0, 0, 0, 1, 1, 2, 2, 1}, nil},
		{"one seat for a share of less than one", []int{83, 14, 3}, []int{2, 1, 0}, []int{0, 0, 0, 0, 1}, nil},
		{"two of three", []int{34, 33, 33}, []int{2, 1, 0}, []int{0, 2}, ties(tie(2, 1, 2))},
		{"three of four", []int{27, 26, 24, 23}, []int{3, 2, 1, 0}, []int{0, 1, 2}, nil},
		{"three of four, behind whole seats", []int{18, 17, 16, 19}, []int{2, 1, 0, 3}, []int{0, 1, 2, 3, 3, 0, 1}, nil},
		{"nine of ten", []int{109, 108, 107, 106, 105, 104, 103, 102, 101, 55}, downFrom(10), []int{0, 1, 2, 3, 4, 5, 6, 7, 8}, nil},
		{"not for a remainder of 0", []int{50, 25, 25}, []int{0, 2, 1}, []int{0, 2}, ties(tie(2, 1, 2))},
		{"not for two remainders of 0", []int{50, 25, 25, 0}, []int{3, 0, 2, 1}, []int{0, 2}, ties(tie(2, 1, 2))},
	} {
		t.Run(c.name, func(t *testing.T) { c.check(t, hare()) })
	}
}

func TestP20_3Ties(t *testing.T) {
	for _, c := range []allocation{
		{"seven and two votes, the lot for two", []int{7, 2, 1}, []int{1, 0, 2}, []int{0, 1}, ties(tie(1, 0, 1))},
		{"seven and two votes, the lot for seven", []int{7, 2, 1}, []int{2, 0, 1}, []int{0, 0}, ties(tie(0, 0, 1))},
		{"two of three with the same votes", []int{6, 2, 2}, []int{2, 0, 1}, []int{0, 0, 2}, ties(tie(2, 1, 2))},
		{"three with other votes, for two seats", []int{14, 4, 9, 3}, []int{1, 0, 2, 3}, []int{0, 0, 2, 1, 0, 2}, ties(tie(1, 0, 1, 2), tie(0, 0, 2))},
		{"three with other votes, another lot", []int{14, 4, 9, 3}, []int{3, 2, 1, 0}, []int{0, 0, 2, 2, 1, 0}, ties(tie(2, 0, 1, 2), tie(1, 0, 1))},
		{"all", []int{5, 5, 5}, []int{2, 0, 1}, []int{0, 1, 2, 2, 0}, ties(tie(2, 0, 1, 2), tie(0, 0, 1))},
		{"all of ten", []int{1, 1, 1, 1, 1, 1, 1, 1, 1, 1}, downFrom(10), []int{9, 8, 7, 6, 5}, ties(tie(9, upTo(10)...), tie(8, upTo(9)...), tie(7, upTo(8)...), tie(6, upTo(7)...), tie(5, upTo(6)...))},
		{"no seat is left for the last one", []int{1, 1}, []int{1, 0}, []int{0, 1}, nil},
	} {
		t.Run(c.name, func(t *testing.T) { c.check(t, hare()) })
	}
}

// Shares and remainders that differ by as little as the limits allow.
func TestP20_3CloseRemainders(t *testing.T) {
	nine := []int{0, 0, 0, 0, 0, 0, 0, 0, 0}
	for _, c := range []allocation{
		{"by one vote", []int{499999, 500001}, []int{0, 1}, []int{1}, nil},
		{"level", []int{500000, 500000}, []int{1, 0}, []int{1}, ties(tie(1, 0, 1))},
		{"by one vote of three", []int{333333, 333333, 333334}, []int{1, 0, 2}, []int{2, 1}, ties(tie(1, 0, 1))},
		{"one vote less than a whole seat", []int{499999, 500000}, []int{1, 0}, []int{0, 0, 0, 0, 1, 1, 1, 1, 1, 0}, nil},
		{"all but one vote", []int{999999, 1}, []int{1, 0}, append(nine[:9:9], 0), nil},
		{"half a seat", []int{950000, 50000}, []int{1, 0}, append(nine[:9:9], 1), ties(tie(1, 0, 1))},
		{"a vote less than half a seat", []int{950001, 49999}, []int{1, 0}, append(nine[:9:9], 0), nil},
		{"a vote more than half a seat", []int{949999, 50001}, []int{0, 1}, append(nine[:9:9], 1), nil},
		{"a whole seat", []int{900000, 100000}, []int{1, 0}, append(nine[:9:9], 1), nil},
	} {
		t.Run(c.name, func(t *testing.T) { c.check(t, hare()) })
	}
}

// Without votes all seats are allocated by lot: with fewer seats than parties, as many, and more, so that all are eligible again. The last one that is eligible has no tie.
func TestP20_3NoVotes(t *testing.T) {
	for _, c := range []allocation{
		{"one seat", []int{0, 0, 0}, []int{2, 0, 1}, []int{2}, ties(tie(2, 0, 1, 2))},
		{"two seats", []int{0, 0, 0}, []int{2, 0, 1}, []int{2, 0}, ties(tie(2, 0, 1, 2), tie(0, 0, 1))},
		{"three seats", []int{0, 0, 0}, []int{2, 0, 1}, []int{2, 0, 1}, ties(tie(2, 0, 1, 2), tie(0, 0, 1))},
		{"four seats", []int{0, 0, 0}, []int{2, 0, 1}, []int{2, 0, 1, 2}, ties(tie(2, 0, 1, 2), tie(0, 0, 1), tie(2, 0, 1, 2))},
		{"seven seats", []int{0, 0, 0}, []int{2, 0, 1}, []int{2, 0, 1, 2, 0, 1, 2}, ties(tie(2, 0, 1, 2), tie(0, 0, 1), tie(2, 0, 1, 2), tie(0, 0, 1), tie(2, 0, 1, 2))},
		{"ten seats", []int{0, 0, 0}, []int{2, 0, 1}, []int{2, 0, 1, 2, 0, 1, 2, 0, 1, 2}, ties(tie(2, 0, 1, 2), tie(0, 0, 1), tie(2, 0, 1, 2), tie(0, 0, 1), tie(2, 0, 1, 2), tie(0, 0, 1), tie(2, 0, 1, 2))},
		{"ten seats of two parties", []int{0, 0}, []int{1, 0}, []int{1, 0, 1, 0, 1, 0, 1, 0, 1, 0}, ties(tie(1, 0, 1), tie(1, 0, 1), tie(1, 0, 1), tie(1, 0, 1), tie(1, 0, 1))},
		{"ten seats of one party", []int{0}, []int{0}, []int{0, 0, 0, 0, 0, 0, 0, 0, 0, 0}, nil},
	} {
		t.Run(c.name, func(t *testing.T) { c.check(t, hare()) })
	}
	for cands := 1; cands <= 10; cands++ {
		for _, lot := range someLots(cands) {
			for seats := 1; seats <= 10; seats++ {
				elected, l := inTurns(seats, lot)
				hare().check(t, voting(make([]int, cands)...), seats, lot, outcome(make([]int, cands), 0, elected, l...))
			}
		}
	}
}

// With the same votes for all, each has the same whole seats, and the lot decides about the rest.
func TestP20_3AllWithTheSameVotes(t *testing.T) {
	for cands := 1; cands <= 10; cands++ {
		for _, lot := range someLots(cands) {
			for _, n := range []int{1, 7, million / 10} {
				votes := make([]int, cands)
				for party := range votes {
					votes[party] = n
				}
				for seats := 1; seats <= 10; seats++ {
					var elected []int
					var l []api.Tie
					for party := range cands {
						for range seats / cands {
							elected = append(elected, party)
						}
					}
					if rest := seats % cands; rest > 0 {
						by, tied := inTurns(rest, lot)
						elected, l = append(elected, by...), tied
					}
					hare().check(t, voting(votes...), seats, lot, outcome(votes, 0, elected, l...))
				}
			}
		}
	}
}

// From none to all but one of the parties get a seat by their remainders.
func TestP20_3HowManySeatsRemain(t *testing.T) {
	for cands := 1; cands <= 10; cands++ {
		for whole := range 10 {
			for rest := range cands {
				if seats := whole + rest; seats >= 1 && seats <= 10 {
					checkRest(t, cands, seats, rest)
				}
			}
		}
	}
}

// checkRest checks an allocation in which so many seats remain: of as many parties each has a share of a part less than a seat, and party 0 has the other shares.
func checkRest(t *testing.T, cands, seats, rest int) {
	t.Helper()
	votes := make([]int, cands)
	votes[0] = 1000 * seats * cands
	for party := 1; party <= rest; party++ {
		votes[party] = 1000 * (cands - 1)
		votes[0] -= votes[party]
	}
	given := 0
	for _, n := range modelFloors(votes, seats) {
		given += n
	}
	if seats-given != rest {
		t.Fatalf("of %v votes and %d seats, %d remain; want %d", votes, seats, seats-given, rest)
	}
	for _, lot := range someLots(cands) {
		o, _ := hare().checkModel(t, voting(votes...), seats, lot)
		for party := 1; party <= rest; party++ {
			if len(o.Elected) != seats || number(o.Elected, party) > 1 || rest < cands-1 && number(o.Elected, party) < 1 {
				t.Errorf("of %v votes and %d seats: %v", votes, seats, o)
			}
		}
	}
}

// modelFloors returns the whole seats of each party's share.
func modelFloors(votes []int, seats int) []int {
	floors, _ := modelShares(votes, seats)
	return floors
}
