package lists_test

import (
	"math/big"
	"testing"

	"suffrage/api"
)

// P20.1 and P20.2. Each case is checked with as many seats as are elected; with fewer, its beginnings would be (P20.4).

func TestP20_1DHondt(t *testing.T) {
	for _, c := range []allocation{
		{"the example", []int{53, 24, 23}, []int{0, 1, 2}, []int{0, 0, 1, 2, 0, 0, 1}, nil},
		{"the example with another lot", []int{53, 24, 23}, []int{2, 1, 0}, []int{0, 0, 1, 2, 0, 0, 1}, nil},
		{"four parties", []int{100000, 80000, 30000, 20000}, []int{3, 2, 1, 0}, []int{0, 1, 0, 1, 0, 2, 1, 0}, nil},
		{"one vote", []int{0, 1, 0}, []int{0, 1, 2}, []int{1, 1, 1}, nil},
		{"one vote of each of two", []int{1, 0, 1}, []int{1, 2, 0}, []int{2, 0, 2, 0, 2}, ties(tie(2, 0, 2), tie(2, 0, 2), tie(2, 0, 2))},
		{"parties without votes", []int{0, 7, 0}, []int{0, 2, 1}, []int{1, 1, 1, 1, 1, 1, 1, 1, 1, 1}, nil},
		{"one party", []int{3}, []int{0}, []int{0, 0, 0, 0, 0, 0, 0, 0, 0, 0}, nil},
		{"one party gets all", []int{51, 5, 4}, []int{1, 0, 2}, []int{0, 0, 0, 0, 0, 0, 0, 0, 0, 0}, nil},
		{"one party gets all by lot", []int{50, 5, 4}, []int{0, 1, 2}, []int{0, 0, 0, 0, 0, 0, 0, 0, 0, 0}, ties(tie(0, 0, 1))},
		{"one party lacks a vote to get all", []int{49, 5, 4}, []int{0, 1, 2}, []int{0, 0, 0, 0, 0, 0, 0, 0, 0, 1}, nil},
	} {
		t.Run(c.name, func(t *testing.T) { c.check(t, dhondt()) })
	}
}

func TestP20_1DHondtTies(t *testing.T) {
	for _, c := range []allocation{
		{"six with a seat and three without, the lot for three", []int{6, 3}, []int{1, 0}, []int{0, 1}, ties(tie(1, 0, 1))},
		{"six with a seat and three without, the lot for six", []int{6, 3}, []int{0, 1}, []int{0, 0, 1}, ties(tie(0, 0, 1))},
		{"just not level", []int{7, 3}, []int{1, 0}, []int{0, 0, 1}, nil},
		{"two of three with the same votes", []int{5, 3, 5}, []int{2, 1, 0}, []int{2, 0, 1}, ties(tie(2, 0, 2))},
		{"three with other votes and other seats", []int{6, 4, 2}, []int{2, 0, 1}, []int{0, 1, 0, 2, 0, 1}, ties(tie(2, 0, 1, 2), tie(0, 0, 1))},
		{"three with other votes and other seats, another lot", []int{6, 4, 2}, []int{1, 2, 0}, []int{0, 1, 0, 1, 2, 0, 0}, ties(tie(1, 0, 1, 2), tie(2, 0, 2))},
		{"again with more seats", []int{2, 4, 2}, []int{2, 1, 0}, []int{1, 2, 1, 0, 1, 2, 1, 0}, ties(tie(2, 0, 1, 2), tie(1, 0, 1), tie(2, 0, 1, 2), tie(1, 0, 1))},
		{"two ties", []int{2, 4, 6, 8}, []int{1, 3, 0, 2}, []int{3, 2, 1, 3, 2, 3, 1, 3, 0, 2}, ties(tie(1, 1, 3), tie(1, 0, 1, 2, 3), tie(3, 0, 2, 3), tie(0, 0, 2))},
		{"all of four", []int{5, 5, 5, 5}, []int{2, 0, 3, 1}, []int{2, 0, 3, 1, 2, 0, 3, 1}, ties(tie(2, 0, 1, 2, 3), tie(0, 0, 1, 3), tie(3, 1, 3), tie(2, 0, 1, 2, 3), tie(0, 0, 1, 3), tie(3, 1, 3))},
		{"two of all", []int{1, 9, 1}, []int{2, 1, 0}, []int{1, 1, 1, 1, 1, 1, 1, 1, 2, 1}, ties(tie(2, 0, 1, 2), tie(1, 0, 1))},
	} {
		t.Run(c.name, func(t *testing.T) { c.check(t, dhondt()) })
	}
}

// The last of ten seats goes to 0, to 1, or to one of them by lot. Quotients that are not equal are nowhere closer than here, where the divisors are 5 and 6.
func TestP20_1CloseQuotients(t *testing.T) {
	start := []int{1, 0, 1, 0, 1, 0, 1, 0, 1}
	for _, c := range []allocation{
		{"0 is ahead", []int{454541, 545449}, []int{1, 0}, append(start[:9:9], 0), nil},
		{"1 is ahead", []int{454544, 545453}, []int{0, 1}, append(start[:9:9], 1), nil},
		{"level, the lot for 0", []int{454545, 545454}, []int{0, 1}, append(start[:9:9], 0), ties(tie(0, 0, 1))},
		{"level, the lot for 1", []int{454545, 545454}, []int{1, 0}, append(start[:9:9], 1), ties(tie(1, 0, 1))},
		{"0 by one vote", []int{454546, 545454}, []int{1, 0}, append(start[:9:9], 0), nil},
		{"1 by one vote", []int{454545, 545455}, []int{0, 1}, append(start[:9:9], 1), nil},
	} {
		t.Run(c.name, func(t *testing.T) { c.check(t, dhondt()) })
	}
	if difference := new(big.Rat).Sub(dhondtQuotient(454541, 4), dhondtQuotient(545449, 5)); difference.Cmp(big.NewRat(1, 30)) != 0 {
		t.Errorf("the quotients differ by %v", difference)
	}
}

func TestP20_2Sainte(t *testing.T) {
	for _, c := range []allocation{
		{"the example", []int{53, 24, 23}, []int{0, 1, 2}, []int{0, 1, 2, 0, 0, 1, 2}, nil},
		{"the example with another lot", []int{53, 24, 23}, []int{2, 1, 0}, []int{0, 1, 2, 0, 0, 1, 2}, nil},
		{"four parties", []int{100000, 80000, 30000, 20000}, []int{3, 2, 1, 0}, []int{0, 1, 0, 2, 1, 3, 0, 1}, ties(tie(3, 0, 3))},
		{"one vote", []int{0, 1, 0}, []int{0, 1, 2}, []int{1, 1, 1}, nil},
		{"one vote of each of two", []int{1, 0, 1}, []int{1, 2, 0}, []int{2, 0, 2, 0, 2}, ties(tie(2, 0, 2), tie(2, 0, 2), tie(2, 0, 2))},
		{"parties without votes", []int{0, 7, 0}, []int{0, 2, 1}, []int{1, 1, 1, 1, 1, 1, 1, 1, 1, 1}, nil},
		{"one party", []int{3}, []int{0}, []int{0, 0, 0, 0, 0, 0, 0, 0, 0, 0}, nil},
		{"one party gets all", []int{96, 5, 4}, []int{1, 0, 2}, []int{0, 0, 0, 0, 0, 0, 0, 0, 0, 0}, nil},
		{"one party gets all by lot", []int{95, 5, 4}, []int{0, 1, 2}, []int{0, 0, 0, 0, 0, 0, 0, 0, 0, 0}, ties(tie(0, 0, 1))},
		{"one party lacks a vote to get all", []int{94, 5, 4}, []int{0, 1, 2}, []int{0, 0, 0, 0, 0, 0, 0, 0, 0, 1}, nil},
	} {
		t.Run(c.name, func(t *testing.T) { c.check(t, sainte()) })
	}
}

func TestP20_2SainteTies(t *testing.T) {
	for _, c := range []allocation{
		{"nine with a seat and three without, the lot for three", []int{9, 3}, []int{1, 0}, []int{0, 1}, ties(tie(1, 0, 1))},
		{"nine with a seat and three without, the lot for nine", []int{9, 3}, []int{0, 1}, []int{0, 0, 1}, ties(tie(0, 0, 1))},
		{"just not level", []int{10, 3}, []int{1, 0}, []int{0, 0, 1}, nil},
		{"two of three with the same votes", []int{5, 3, 5}, []int{2, 1, 0}, []int{2, 0, 1}, ties(tie(2, 0, 2))},
		{"three with other votes and other seats", []int{5, 3, 1}, []int{2, 0, 1}, []int{0, 1, 0, 2, 0, 1}, ties(tie(2, 0, 1, 2), tie(0, 0, 1))},
		{"three with other votes and other seats, another lot", []int{5, 3, 1}, []int{1, 2, 0}, []int{0, 1, 0, 1, 2, 0}, ties(tie(1, 0, 1, 2), tie(2, 0, 2))},
		{"all of four with other votes", []int{1, 3, 5, 7}, []int{1, 3, 0, 2}, []int{3, 2, 1, 3, 2, 3, 1, 3, 0, 2}, ties(tie(1, 0, 1, 2, 3), tie(3, 0, 2, 3), tie(0, 0, 2))},
		{"all of four", []int{5, 5, 5, 5}, []int{2, 0, 3, 1}, []int{2, 0, 3, 1, 2, 0, 3, 1}, ties(tie(2, 0, 1, 2, 3), tie(0, 0, 1, 3), tie(3, 1, 3), tie(2, 0, 1, 2, 3), tie(0, 0, 1, 3), tie(3, 1, 3))},
	} {
		t.Run(c.name, func(t *testing.T) { c.check(t, sainte()) })
	}
}

// As for D'Hondt; here the divisors are 9 and 11.
func TestP20_2CloseQuotients(t *testing.T) {
	start := []int{1, 0, 1, 0, 1, 0, 1, 0, 1}
	for _, c := range []allocation{
		{"0 is ahead", []int{449996, 549995}, []int{1, 0}, append(start[:9:9], 0), nil},
		{"1 is ahead", []int{449995, 549994}, []int{0, 1}, append(start[:9:9], 1), nil},
		{"level, the lot for 0", []int{450000, 550000}, []int{0, 1}, append(start[:9:9], 0), ties(tie(0, 0, 1))},
		{"level, the lot for 1", []int{450000, 550000}, []int{1, 0}, append(start[:9:9], 1), ties(tie(1, 0, 1))},
		{"0 by one vote", []int{450001, 549999}, []int{1, 0}, append(start[:9:9], 0), nil},
		{"1 by one vote", []int{449999, 550001}, []int{0, 1}, append(start[:9:9], 1), nil},
	} {
		t.Run(c.name, func(t *testing.T) { c.check(t, sainte()) })
	}
	if difference := new(big.Rat).Sub(sainteQuotient(449996, 4), sainteQuotient(549995, 5)); difference.Cmp(big.NewRat(1, 99)) != 0 {
		t.Errorf("the quotients differ by %v", difference)
	}
}

// Both divisor methods

func divisorMethods() []method { return []method{dhondt(), sainte()} }

// Where no party has a vote, all quotients stay 0: one party gets all seats, each of them by lot.
func TestP20_1NoVotes(t *testing.T) {
	for cands := 1; cands <= 10; cands++ {
		for _, lot := range someLots(cands) {
			for seats := 1; seats <= 10; seats++ {
				var elected []int
				var l []api.Tie
				for range seats {
					elected = append(elected, lot[0])
					if cands > 1 {
						l = append(l, tie(lot[0], upTo(cands)...))
					}
				}
				for _, m := range divisorMethods() {
					m.check(t, voting(make([]int, cands)...), seats, lot, outcome(make([]int, cands), 0, elected, l...))
				}
			}
		}
	}
}

// Where all parties have the same votes, the lot is gone through again and again; the last one of it has no tie.
func TestP20_1AllWithTheSameVotes(t *testing.T) {
	for cands := 1; cands <= 10; cands++ {
		for _, lot := range someLots(cands) {
			for _, n := range []int{1, 2, 60, million / 10} {
				votes := make([]int, cands)
				for party := range votes {
					votes[party] = n
				}
				for seats := 1; seats <= 10; seats++ {
					elected, l := inTurns(seats, lot)
					for _, m := range divisorMethods() {
						m.check(t, voting(votes...), seats, lot, outcome(votes, 0, elected, l...))
					}
				}
			}
		}
	}
}

// inTurns returns who gets the seats, and the ties, where each party of the lot gets one, and all of them again.
func inTurns(seats int, lot []int) (elected []int, l []api.Tie) {
	for i := range seats {
		at := i % len(lot)
		elected = append(elected, lot[at])
		if at < len(lot)-1 {
			l = append(l, tie(lot[at], inOrder(lot[at:])...))
		}
	}
	return elected, l
}

// Every pair of quotients that can be equal at the last of ten seats is, and the lot decides; a vote more or less decides it without.
func TestP20_1EveryPairOfSeats(t *testing.T) {
	divisors := map[string]func(s int) int{"DHondt": func(s int) int { return s + 1 }, "Sainte": func(s int) int { return 2*s + 1 }}
	for _, m := range divisorMethods() {
		divisor := divisors[m.name]
		for s := range 10 { // what 0 has before the last seat, so that 1 has the rest of nine
			x, y := 100*divisor(s), 100*divisor(9-s)
			for _, lot := range lots(2) {
				o := m.run(t, voting(x, y), 10, lot)
				if number(o.Elected[:9], 0) != s || o.Elected[9] != lot[0] || !sameTies(o.Ties[len(o.Ties)-1:], ties(tie(lot[0], 0, 1))) {
					t.Errorf("%s of %d and %d votes, lot %v: %v", m.name, x, y, lot, o)
				}
				for _, more := range []int{-1, 1} {
					o := m.run(t, voting(x+more, y), 10, lot)
					winner := 0
					if more < 0 {
						winner = 1
					}
					if number(o.Elected[:9], 0) != s || o.Elected[9] != winner || len(o.Ties) > 0 {
						t.Errorf("%s of %d and %d votes, lot %v: %v", m.name, x+more, y, lot, o)
					}
				}
				m.checkModel(t, voting(x, y), 10, lot)
			}
		}
	}
}
