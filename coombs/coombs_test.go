package coombs_test

import (
	"math"
	"math/rand"
	"slices"
	"testing"

	"suffrage/api"
	"suffrage/coombs"
	"suffrage/profile"
	"suffrage/ratio"
	"suffrage/runoff"
)

// P16.1

func check(t *testing.T, p api.Profile, lot []int, want api.Outcome) {
	t.Helper()
	if o, e := coombs.Count(p, 1, lot); !same(o, want) || e != api.OK {
		t.Errorf("the count of %s, lot %v: %v, %d; want %v", show(p), lot, o, int(e), want)
	}
	if o, e := modelCount(p, 1, lot); !same(o, want) || e != api.OK {
		t.Errorf("the model's count of %s, lot %v: %v, %d; want %v", show(p), lot, o, int(e), want)
	}
}

func checkError(t *testing.T, p api.Profile, seats int, lot []int, want api.Errno) {
	t.Helper()
	if o, e := coombs.Count(p, seats, lot); !same(o, api.Outcome{}) || e != want {
		t.Errorf("the count of %s, %d seats, lot %v: %v, %d; want nothing, %d", show(p), seats, lot[:min(len(lot), 50)], o, int(e), int(want))
	}
}

func checkCount(t *testing.T, p api.Profile, seats int, lot []int) (api.Outcome, api.Errno) {
	t.Helper()
	o, e := coombs.Count(p, seats, lot)
	want, wantE := modelCount(p, seats, lot)
	if !same(o, want) || e != wantE {
		t.Errorf("the count of %s, %d seats, lot %v: %v, %d; want %v, %d", show(p), seats, lot, o, int(e), want, int(wantE))
	}
	return o, e
}

func TestTheExample(t *testing.T) {
	for _, lot := range lots(3) {
		check(t, theExample(), lot, untied(out(2, 0, 4, 3, 2), won(1, 0, 4, 5, 0)))
	}
}

// tennessee is the well-known example of four cities, of which Memphis has the most ballots, and the most against it, and Nashville is elected.
func tennessee() api.Profile {
	return sorted(4, row(42, 0, 1, 2, 3), row(26, 1, 2, 3, 0), row(15, 2, 3, 1, 0), row(17, 3, 2, 1, 0))
}

// burlington is the election of 2009 in that city, as far as the ballots of three candidates go.
func burlington() api.Profile {
	const kiss, montroll, wright = 0, 1, 2
	return sorted(3,
		row(2043, kiss, montroll, wright), row(371, kiss, wright, montroll), row(568, kiss),
		row(1332, montroll, kiss, wright), row(767, montroll, wright, kiss), row(455, montroll),
		row(495, wright, kiss, montroll), row(1513, wright, montroll, kiss), row(1289, wright))
}

func TestWellKnownProfiles(t *testing.T) {
	checkLasts(t, tennessee(), isOf(4, 0, 1, 2, 3), 58, 0, 0, 42)
	for _, lot := range lots(4) {
		check(t, tennessee(), lot, untied(out(0, 0, 42, 26, 15, 17), won(1, 0, 0, 68, 15, 17)))
	}
	// Wright has the most ballots, and the most against him.
	checkLasts(t, burlington(), isOf(3, 0, 1, 2), 4024, 2723, 4398)
	for _, lot := range lots(3) {
		check(t, burlington(), lot, untied(out(2, 0, 2982, 2554, 3297), won(1, 1289, 3477, 4067, 0)))
	}
}

// The end of a count

func TestHalfIsNoMajority(t *testing.T) {
	lot := []int{0, 1, 2}
	// Half of the ballots, and one more, with and without exhausted ones.
	check(t, ranks(3, row(5, 0), row(3, 1), row(2, 2, 1)), lot, outcome([]api.Tie{tie(1, 0, 1)}, out(2, 0, 5, 3, 2), out(1, 0, 5, 5, 0), won(0, 5, 5, 0, 0)))
	check(t, ranks(3, row(6, 0), row(3, 1), row(2, 2, 1)), lot, untied(won(0, 0, 6, 3, 2)))
	check(t, ranks(3, row(90), row(5, 0), row(3, 1), row(2, 2, 1)), lot, outcome([]api.Tie{tie(1, 0, 1)}, out(2, 90, 5, 3, 2), out(1, 90, 5, 5, 0), won(0, 95, 5, 0, 0)))
	check(t, ranks(3, row(90), row(6, 0), row(3, 1), row(2, 2, 1)), lot, untied(won(0, 90, 6, 3, 2)))
	// Of ballots that rank all candidates, half for 0 and half against it; the lot decides whether it is eliminated.
	p := ranks(3, row(4, 0, 1, 2), row(2, 1, 2, 0), row(2, 2, 1, 0))
	check(t, p, []int{0, 2, 1}, outcome([]api.Tie{tie(2, 0, 2), tie(1, 0, 1)}, out(2, 0, 4, 2, 2), out(1, 0, 4, 4, 0), won(0, 0, 8, 0, 0)))
	check(t, p, []int{2, 1, 0}, outcome([]api.Tie{tie(0, 0, 2)}, out(0, 0, 4, 2, 2), won(1, 0, 0, 6, 2)))
	// Half, and no other candidate with as many: the others are eliminated.
	check(t, ranks(4, row(4, 0), row(2, 1, 2), row(1, 2), row(1, 3, 2)), upTo(4), outcome([]api.Tie{tie(2, 0, 2)}, out(3, 0, 4, 2, 1, 1), out(1, 0, 4, 2, 2, 0), out(2, 0, 4, 0, 4, 0), won(0, 4, 4, 0, 0, 0)))
	// One less than half, of an odd number: the one more is a majority.
	check(t, ranks(2, row(3, 0), row(4, 1)), []int{0, 1}, untied(won(1, 0, 3, 4)))
	check(t, ranks(3, row(3, 0), row(3, 1), row(1, 2)), lot, outcome([]api.Tie{tie(1, 0, 1)}, out(2, 0, 3, 3, 1), out(1, 1, 3, 3, 0), won(0, 4, 3, 0, 0)))
	for n := 1; n <= 40; n++ {
		// n against n, and against one less, with blank ballots.
		check(t, ranks(2, row(n), row(n, 0), row(n, 1)), []int{0, 1}, outcome([]api.Tie{tie(1, 0, 1)}, out(1, n, n, n), won(0, 2*n, n, 0)))
		check(t, ranks(2, row(n), row(n, 0), row(n+1, 1)), []int{0, 1}, untied(won(1, n, n, n+1)))
	}
}

// More than half of the ballots that are not exhausted are enough, even if they are less than half of all.
func TestExhaustedBallotsDoNotCount(t *testing.T) {
	check(t, ranks(3, row(4, 0), row(3, 1), row(2, 2)), []int{2, 1, 0}, untied(out(2, 0, 4, 3, 2), won(0, 2, 4, 3, 0)))
	check(t, ranks(3, row(999997), row(2, 0), row(1, 1)), []int{2, 1, 0}, untied(won(0, 999997, 2, 1, 0)))
	check(t, ranks(3, row(999999), row(1, 1)), []int{2, 0, 1}, untied(won(1, 999999, 0, 1, 0)))
	// The exhausted ballots become more with the rounds, and the same ballots are a majority then.
	check(t, ranks(5, row(4, 0), row(3, 1), row(2, 2), row(1, 3)), downFrom(5), untied(out(4, 0, 4, 3, 2, 1, 0), out(3, 0, 4, 3, 2, 1, 0), out(2, 1, 4, 3, 2, 0, 0), won(0, 3, 4, 3, 0, 0, 0)))
}

// Of five candidates, the round of the majority is the first, one in the middle or the last.
func TestTheRoundOfTheMajority(t *testing.T) {
	lot := upTo(5)
	check(t, ranks(5, row(16, 0), row(2, 1), row(3, 2), row(4, 3), row(5, 4)), lot, untied(won(0, 0, 16, 2, 3, 4, 5)))
	check(t, ranks(5, row(14, 0), row(2, 1, 0), row(3, 2), row(4, 3), row(5, 4)), lot, untied(out(1, 0, 14, 2, 3, 4, 5), won(0, 0, 16, 0, 3, 4, 5)))
	check(t, ranks(5, row(12, 0), row(2, 1), row(3, 2, 0), row(4, 3), row(5, 4)), lot, untied(out(1, 0, 12, 2, 3, 4, 5), out(2, 2, 12, 0, 3, 4, 5), won(0, 2, 15, 0, 0, 4, 5)))
	check(t, ranks(5, row(10, 0), row(3, 1, 4), row(4, 2, 4), row(5, 3, 4), row(9, 4)), lot, untied(out(1, 0, 10, 3, 4, 5, 9), out(2, 0, 10, 0, 4, 5, 12), won(4, 0, 10, 0, 0, 5, 16)))
	check(t, ranks(5, row(9, 0), row(1, 1, 0), row(2, 2, 0), row(6, 3, 4), row(7, 4)), lot, untied(out(1, 0, 9, 1, 2, 6, 7), out(2, 0, 10, 0, 2, 6, 7), out(3, 0, 12, 0, 0, 6, 7), won(4, 0, 12, 0, 0, 0, 13)))
	check(t, ranks(5, row(9, 0), row(1, 1, 0), row(2, 2, 3), row(4, 3, 4), row(4, 4)), lot, untied(out(1, 0, 9, 1, 2, 4, 4), out(2, 0, 10, 0, 2, 4, 4), out(3, 0, 10, 0, 0, 6, 4), won(0, 2, 10, 0, 0, 0, 8)))
	// Two level ones are left, and then one.
	check(t, ranks(5, row(9, 0), row(1, 1, 0), row(2, 2, 4), row(4, 3, 4), row(4, 4)), lot, outcome([]api.Tie{tie(4, 0, 4)}, out(1, 0, 9, 1, 2, 4, 4), out(2, 0, 10, 0, 2, 4, 4), out(3, 0, 10, 0, 0, 4, 6), out(4, 0, 10, 0, 0, 0, 10), won(0, 10, 10, 0, 0, 0, 0)))
}

// Who has a majority is elected, even with the most ballots against it: in the first round, in a middle one, and when two are left.
func TestAMajorityWithTheMostAgainstIt(t *testing.T) {
	p := sorted(3, row(3, 0, 1, 2), row(3, 0, 2, 1), row(5, 1, 2, 0))
	checkLasts(t, p, isOf(3, 0, 1, 2), 5, 3, 3)
	check(t, p, []int{1, 2, 0}, untied(won(0, 0, 6, 5, 0)))
	p = sorted(4, row(2, 0, 1, 2, 3), row(2, 0, 2, 1, 3), row(4, 1, 2, 0, 3), row(1, 3, 0, 1, 2), row(1, 3, 0, 2, 1))
	checkLasts(t, p, isOf(4, 0, 1, 2), 4, 3, 3, 0)
	check(t, p, []int{1, 2, 3, 0}, untied(out(3, 0, 4, 4, 0, 2), won(0, 0, 6, 4, 0, 0)))
}

// There is no majority until one candidate is left.
func TestOneCandidateIsLeft(t *testing.T) {
	for cands := 2; cands <= 10; cands++ {
		var level []api.Row
		for c := range cands {
			level = append(level, row(3, c))
		}
		var rounds []api.Round
		var ties []api.Tie
		had := slices.Repeat([]int{3}, cands)
		for c := cands - 1; c > 0; c-- {
			rounds, ties = append(rounds, out(c, 3*(cands-1-c), had...)), append(ties, tie(c, upTo(c+1)...))
			had[c] = 0
		}
		check(t, ranks(cands, level...), upTo(cands), outcome(ties, append(rounds, won(0, 3*(cands-1), had...))...))
	}
	// Of ballots that rank all: 3 and 2 go out by the ballots that are against them, and then half are for 0, half for 1.
	check(t, ranks(4, row(1, 0, 1, 2, 3), row(1, 1, 0, 3, 2)), upTo(4), outcome([]api.Tie{tie(3, 2, 3), tie(1, 0, 1)}, out(3, 0, 1, 1, 0, 0), out(2, 0, 1, 1, 0, 0), out(1, 0, 1, 1, 0, 0), won(0, 0, 2, 0, 0, 0)))
}

// If two are left and neither has a majority, as many ballots are against both, so that the lot decides.
func TestTwoWithoutAMajorityAreTied(t *testing.T) {
	random := rand.New(rand.NewSource(510))
	two := 0
	for range 3000 {
		p := evened(random, randomProfile(random, 2+random.Intn(4), api.KindRank))
		o := run(t, p, random.Perm(p.Cands))
		if len(o.Rounds) < p.Cands {
			continue
		}
		two++
		last, gone := o.Ties[len(o.Ties)-1], o.Rounds[p.Cands-2].Out[0]
		if last.Chosen != gone || !slices.Equal(last.Among, slices.Sorted(slices.Values([]int{gone, o.Elected[0]}))) {
			t.Errorf("the count of %s: %v", show(p), o)
		}
	}
	if two < 300 {
		t.Errorf("%d counts come to one candidate", two)
	}
}

// If all ballots are blank, the lot alone decides.
func TestTheLotAloneDecides(t *testing.T) {
	for cands := 1; cands <= 10; cands++ {
		for _, many := range []int{0, 1, 7, 1000000} {
			p := ranks(cands)
			if many > 0 {
				p = ranks(cands, row(many))
			}
			for _, lot := range [][]int{upTo(cands), downFrom(cands), append(others(cands, cands/2), cands/2)} {
				check(t, p, lot, byLot(many, lot))
			}
		}
	}
	for _, lot := range lots(4) {
		check(t, ranks(4), lot, byLot(0, lot))
		check(t, ranks(4, row(6)), lot, byLot(6, lot))
	}
}

// byLot returns the outcome if all ballots are blank.
func byLot(many int, lot []int) api.Outcome {
	var rounds []api.Round
	var ties []api.Tie
	had := make([]int, len(lot))
	for n := len(lot); n > 1; n-- {
		rounds = append(rounds, out(lot[n-1], many, had...))
		ties = append(ties, tie(lot[n-1], slices.Sorted(slices.Values(lot[:n]))...))
	}
	return outcome(ties, append(rounds, won(lot[0], many, had...))...)
}

// Unless all ballots are blank, they are never all exhausted: all are against a candidate that is on none of them, and not all against one that is on some, as long as the other is left.
func TestSomeBallotIsNotExhausted(t *testing.T) {
	random := rand.New(rand.NewSource(511))
	blank := 0
	for range 3000 {
		p := randomProfile(random, 1+random.Intn(10), api.KindRank)
		o := run(t, p, random.Perm(p.Cands))
		marked, e := profile.Marked(p)
		last := o.Rounds[len(o.Rounds)-1]
		if e != api.OK || (marked > 0) != (number(last.Had[o.Elected[0]]) > 0) {
			t.Errorf("the count of %s: %v", show(p), o)
		}
		if marked == 0 {
			blank++
		}
	}
	if blank < 100 || blank > 2000 {
		t.Errorf("%d profiles are blank", blank)
	}
}

// Elimination

func TestWhoIsEliminated(t *testing.T) {
	lot := []int{2, 0, 3, 1}
	for _, c := range []struct {
		name    string
		against [4]int
		ties    []api.Tie
		out     int
	}{
		{"one has the most", [4]int{4, 3, 2, 5}, nil, 3},
		{"the first in the lot has", [4]int{4, 3, 5, 2}, nil, 2},
		{"the last in the lot has", [4]int{4, 5, 3, 2}, nil, 1},
		{"one has some", [4]int{1, 0, 0, 0}, nil, 0},
		{"two have the fewest", [4]int{3, 2, 4, 2}, nil, 2},
		{"two have the most", [4]int{4, 3, 4, 2}, []api.Tie{tie(0, 0, 2)}, 0},
		{"two others", [4]int{3, 4, 3, 4}, []api.Tie{tie(1, 1, 3)}, 1},
		{"the last two in the lot have not", [4]int{3, 2, 3, 2}, []api.Tie{tie(0, 0, 2)}, 0},
		{"three have", [4]int{4, 2, 4, 4}, []api.Tie{tie(3, 0, 2, 3)}, 3},
		{"all have", [4]int{2, 2, 2, 2}, []api.Tie{tie(1, 0, 1, 2, 3)}, 1},
		{"two have some", [4]int{0, 0, 2, 2}, []api.Tie{tie(3, 2, 3)}, 3},
	} {
		t.Run(c.name, func(t *testing.T) {
			// Nobody has a majority, and as many are against each but for those that lack it alone.
			rows := []api.Row{row(20, 0, 1, 2, 3), row(20, 1, 2, 3, 0), row(20, 2, 3, 0, 1), row(20, 3, 0, 1, 2)}
			for x, n := range c.against {
				if n > 0 {
					rows = append(rows, row(n, others(4, x)...))
				}
			}
			p := sorted(4, rows...)
			checkLasts(t, p, isOf(4, 0, 1, 2, 3), 20+c.against[0], 20+c.against[1], 20+c.against[2], 20+c.against[3])
			o, _ := checkCount(t, p, 1, lot)
			ties := o.Ties
			if len(ties) > len(c.ties) {
				ties = ties[:len(c.ties)]
			}
			if !slices.Equal(o.Rounds[0].Out, []int{c.out}) || !same(api.Outcome{Ties: ties}, api.Outcome{Ties: c.ties}) {
				t.Errorf("%v; want %d and %v", o, c.out, c.ties)
			}
			if len(c.ties) == 0 && len(o.Ties) > 0 && slices.Contains(o.Ties[0].Among, c.out) {
				t.Errorf("%v; want no tie of %d", o, c.out)
			}
		})
	}
}

// Who has the most ballots is eliminated, if it has the most against it.
func TestTheMostBallotsAndTheMostAgainst(t *testing.T) {
	for _, lot := range lots(3) {
		check(t, ranks(3, row(4, 0, 1, 2), row(3, 1, 2, 0), row(2, 2, 1, 0)), lot, untied(out(0, 0, 4, 3, 2), won(1, 0, 0, 7, 2)))
		check(t, ranks(3, row(4, 0), row(3, 1, 2), row(2, 2, 1)), lot, untied(out(0, 0, 4, 3, 2), won(1, 4, 0, 3, 2)))
	}
}

// Who has no ballots is not eliminated, if others have more against them, and may be elected.
func TestNoBallotsAndNoneAgainst(t *testing.T) {
	p := ranks(4, row(4, 0, 1, 3, 2), row(3, 2, 1, 3, 0), row(2, 3, 1, 2, 0))
	checkLasts(t, p, isOf(4, 0, 1, 2, 3), 5, 0, 4, 0)
	for _, lot := range lots(4) {
		check(t, p, lot, untied(out(0, 0, 4, 0, 3, 2), out(2, 0, 0, 4, 3, 2), won(1, 0, 0, 7, 0, 2)))
	}
}

// Who is first in the lot, and has the most ballots against it alone, is eliminated.
func TestTheFirstInTheLotIsEliminated(t *testing.T) {
	for cands := 3; cands <= 10; cands++ {
		for c := range cands {
			var rows []api.Row
			for x := range cands {
				n := 2
				if x == c {
					n = 1
				}
				rows = append(rows, row(n, x))
			}
			for _, lot := range [][]int{append([]int{c}, others(cands, c)...), append([]int{c}, reversed(others(cands, c))...)} {
				o, _ := checkCount(t, ranks(cands, rows...), 1, lot)
				if !slices.Equal(o.Rounds[0].Out, []int{c}) || len(o.Ties) != cands-2 || o.Elected[0] != lot[1] {
					t.Errorf("lot %v: %v", lot, o)
				}
			}
		}
	}
}

// Ties are in the order of the rounds, with rounds without a tie between them; and the same candidates may be tied in several.
func TestTiesInSeveralRounds(t *testing.T) {
	p := ranks(5, row(2, 0), row(2, 1), row(3, 2), row(8, 3), row(8, 4))
	check(t, p, []int{3, 2, 1, 4, 0}, outcome([]api.Tie{tie(0, 0, 1), tie(4, 3, 4)}, out(0, 0, 2, 2, 3, 8, 8), out(1, 2, 0, 2, 3, 8, 8), out(2, 4, 0, 0, 3, 8, 8), out(4, 7, 0, 0, 0, 8, 8), won(3, 15, 0, 0, 0, 8, 0)))
	check(t, p, []int{0, 4, 1, 3, 2}, outcome([]api.Tie{tie(1, 0, 1), tie(3, 3, 4)}, out(1, 0, 2, 2, 3, 8, 8), out(0, 2, 2, 0, 3, 8, 8), out(2, 4, 0, 0, 3, 8, 8), out(3, 7, 0, 0, 0, 8, 8), won(4, 15, 0, 0, 0, 0, 8)))
	// One after the other: three with the most, of whom the last in the lot is eliminated, and two of them in the next round.
	p = ranks(4, row(1, 0), row(1, 1), row(1, 2), row(2, 3))
	for _, lot := range lots(4) {
		order := slices.DeleteFunc(slices.Clone(lot), func(c int) bool { return c == 3 })
		two := slices.Sorted(slices.Values(order[:2]))
		had := []int{1, 1, 1, 2}
		rounds := []api.Round{out(order[2], 0, had...)}
		had[order[2]] = 0
		rounds = append(rounds, out(order[1], 1, had...))
		had[order[1]] = 0
		rounds = append(rounds, won(3, 2, had...))
		check(t, p, lot, outcome([]api.Tie{tie(order[2], 0, 1, 2), tie(order[1], two...)}, rounds...))
	}
	// A tie that an elimination dissolves: the ballots of 0 are not against 2, but against 1.
	check(t, ranks(4, row(2, 0, 2), row(2, 1), row(2, 2), row(4, 3)), []int{3, 2, 1, 0}, outcome([]api.Tie{tie(0, 0, 1), tie(2, 2, 3)}, out(0, 0, 2, 2, 2, 4), out(1, 0, 0, 2, 4, 4), out(2, 2, 0, 0, 4, 4), won(3, 6, 0, 0, 0, 4)))
}

// The ballots

// Ballots go over to the next candidate left, over those that have been eliminated before, or to nobody; and so do those against one.
func TestBallotsGoOver(t *testing.T) {
	lot := upTo(4)
	check(t, ranks(3, row(4, 0), row(3, 1, 2), row(2, 2, 1, 0)), upTo(3), untied(out(0, 0, 4, 3, 2), won(1, 4, 0, 3, 2)))
	// Without 3, the ballots against it are against 2, who has the most ballots by then, and had none against it.
	p := ranks(4, row(4, 0, 1, 2, 3), row(3, 1, 0, 2, 3), row(3, 2, 3, 0, 1), row(2, 3, 2, 1, 0))
	checkLasts(t, p, isOf(4, 0, 1, 2, 3), 2, 3, 0, 7)
	check(t, p, lot, untied(out(3, 0, 4, 3, 3, 2), out(2, 0, 4, 3, 5, 0), won(0, 0, 7, 5, 0, 0)))
	// Ballots that lack 3 are against their last one as soon as they lack nobody, and those that lack another one are not.
	p = ranks(4, row(4, 0, 1, 2), row(3, 1, 2), row(3, 2, 0, 1), row(1, 3))
	checkLasts(t, p, isOf(4, 0, 1, 2, 3), 4, 1, 1, 10)
	checkLasts(t, p, isOf(4, 0, 1, 2), 4, 4, 5, 0)
	check(t, p, lot, untied(out(3, 0, 4, 3, 3, 1), out(2, 1, 4, 3, 3, 0), won(0, 1, 7, 3, 0, 0)))
	// In a circle, the ballots against one go over again and again, and those for one as well.
	for cands := 3; cands <= 10; cands++ {
		var rows []api.Row
		for c := range cands {
			rows = append(rows, row(3, append(upTo(cands)[c:], upTo(c)...)...))
		}
		var rounds []api.Round
		had := slices.Repeat([]int{3}, cands)
		for c := cands - 1; 2*had[0] <= 3*cands; c-- {
			rounds = append(rounds, out(c, 0, had...))
			had[0], had[c] = had[0]+3, 0
		}
		check(t, ranks(cands, rows...), upTo(cands), outcome([]api.Tie{tie(cands-1, upTo(cands)...)}, append(rounds, won(0, 0, had...))...))
	}
}

// Exhausted ballots are those of all rounds so far, and blank ones are of the first.
func TestExhaustedBallotsStaySo(t *testing.T) {
	p := ranks(5, row(1), row(2, 0), row(3, 1, 0), row(4, 2, 1, 0), row(9, 3), row(9, 4))
	check(t, p, []int{4, 3, 2, 1, 0}, outcome([]api.Tie{tie(0, 0, 3, 4), tie(3, 3, 4)}, out(2, 1, 2, 3, 4, 9, 9), out(1, 1, 2, 7, 0, 9, 9), out(0, 1, 9, 0, 0, 9, 9), out(3, 10, 0, 0, 0, 9, 9), won(4, 19, 0, 0, 0, 0, 9)))
	random := rand.New(rand.NewSource(512))
	for range 2000 {
		o := run(t, leaning(random), nil)
		for i := 1; i < len(o.Rounds); i++ {
			if number(o.Rounds[i].Lost) < number(o.Rounds[i-1].Lost) {
				t.Errorf("the rounds are %v", o.Rounds)
			}
		}
	}
}

// Edges

// Blank ballots are exhausted in each round, against everybody, and change nothing else.
func TestBlankBallots(t *testing.T) {
	p := theExample()
	p.Rows = append([]api.Row{row(999991)}, p.Rows...)
	check(t, p, []int{1, 2, 0}, untied(out(2, 999991, 4, 3, 2), won(1, 999991, 4, 5, 0)))
}

func TestOneCandidateAlone(t *testing.T) {
	for _, c := range []struct {
		p         api.Profile
		had, lost int
	}{
		{ranks(1), 0, 0},
		{ranks(1, row(7)), 0, 7},
		{ranks(1, row(7, 0)), 7, 0},
		{ranks(1, row(999999), row(1, 0)), 1, 999999},
		{ranks(1, row(1000000, 0)), 1000000, 0},
	} {
		check(t, c.p, []int{0}, untied(won(0, c.lost, c.had)))
		checkLasts(t, c.p, []bool{true}, c.had+c.lost)
		for _, seats := range []int{-1, 0, 2, 10} {
			checkError(t, c.p, seats, []int{0}, api.ErrArg)
		}
	}
}

func TestTenCandidates(t *testing.T) {
	// The ballots of each candidate go to the next one that is left, and those against it to the one before: most are against 8, as most begin with 9.
	var rows []api.Row
	for c := range 10 {
		rows = append(rows, row(10+c, append(upTo(10)[c:], upTo(c)...)...))
	}
	check(t, ranks(10, rows...), upTo(10), untied(
		out(8, 0, 10, 11, 12, 13, 14, 15, 16, 17, 18, 19),
		out(7, 0, 10, 11, 12, 13, 14, 15, 16, 17, 0, 37),
		out(6, 0, 10, 11, 12, 13, 14, 15, 16, 0, 0, 54),
		out(5, 0, 10, 11, 12, 13, 14, 15, 0, 0, 0, 70),
		won(9, 0, 10, 11, 12, 13, 14, 0, 0, 0, 0, 85)))
	check(t, ranks(10, row(1, 5, 7, 4)), upTo(10), untied(won(5, 0, 0, 0, 0, 0, 0, 1, 0, 0, 0, 0)))
}

// As many ballots, and as many rows, as the limits allow.
func TestAtTheLimits(t *testing.T) {
	check(t, ranks(2, row(1000000, 1)), []int{0, 1}, untied(won(1, 0, 0, 1000000)))
	check(t, ranks(2, row(500000, 0), row(500000, 1)), []int{0, 1}, outcome([]api.Tie{tie(1, 0, 1)}, out(1, 0, 500000, 500000), won(0, 500000, 500000, 0)))
	check(t, ranks(3, row(500000, 0), row(500000, 1)), []int{2, 0, 1}, outcome([]api.Tie{tie(1, 0, 1)}, out(2, 0, 500000, 500000, 0), out(1, 0, 500000, 500000, 0), won(0, 500000, 500000, 0, 0)))
	check(t, ranks(2, row(500000, 0), row(499999, 1)), []int{1, 0}, untied(won(0, 0, 500000, 499999)))
	check(t, ranks(2, row(499999, 0), row(500001, 1, 0)), []int{0, 1}, untied(won(1, 0, 499999, 500001)))
	check(t, ranks(3, row(333334, 0, 1, 2), row(333333, 1, 2, 0), row(333333, 2, 0, 1)), []int{2, 0, 1}, untied(out(2, 0, 333334, 333333, 333333), won(0, 0, 666667, 333333, 0)))
	for _, p := range []api.Profile{fullProfile(1), unevenProfile()} {
		for _, lot := range [][]int{upTo(10), downFrom(10), {3, 1, 4, 0, 5, 9, 2, 6, 8, 7}} {
			if o, e := checkCount(t, p, 1, lot); e != api.OK {
				t.Errorf("the count of %s: %v, %d", show(p), o, int(e))
			}
		}
	}
}

// Errors

// wrongProfiles returns, for each error of profile.Check, profiles of rankings that have it, and others that have it whatever their kind.
func wrongProfiles() map[api.Errno][]api.Profile {
	first, second := row(2, 0), row(2, 1, 0)
	great := func(r api.Row, many int) api.Row { return api.Row{Marks: r.Marks, Many: many} }
	wrong := map[api.Errno][]api.Profile{
		api.ErrFull: {ranks(2, make([]api.Row, 65)...), ranks(2, slices.Repeat([]api.Row{first, second}, 33)...), of(0, 9, make([]api.Row, 65)...), ranks(10, append(fullProfile(1).Rows, row(1, 9, 8, 7, 6, 5, 4, 3, 2, 1, 0))...)},
		api.ErrMany: {ranks(2, great(first, 1000001)), ranks(2, first, great(second, 999999)), ranks(2, great(first, math.MaxInt), second), ranks(2, great(first, math.MaxInt), great(second, math.MaxInt)), ranks(2, first, great(second, 1<<32)), of(2, 2, row(1000001, 1)), ranks(2, row(1000001))},
		api.ErrBad: {{}, of(2, 0), of(2, 4), of(2, 255), ranks(2, second, first), ranks(2, first, first), ranks(2, row(1, 2)), ranks(2, row(1, -1, 0)), ranks(2, row(1, 0, 11)), ranks(2, row(1, 1, 1)), ranks(2, row(1, 0, 1, 0)), ranks(2, row(1, 0, 1<<32+1)),
			ranks(1, first, second), ranks(2, row(1), row(1)), of(2, 2, row(1, 1, 0)), of(2, 3, row(1, 1)), of(2, 3, row(1, 0, 11))},
	}
	for _, many := range []int{0, -1, math.MinInt, -1 << 32} {
		wrong[api.ErrBad] = append(wrong[api.ErrBad], ranks(2, great(first, many)), ranks(2, first, great(second, many)))
	}
	for _, cands := range []int{0, -1, 11, 12, math.MaxInt, math.MinInt, 1<<32 + 2, 256 + 2} {
		wrong[api.ErrBad] = append(wrong[api.ErrBad], ranks(cands), ranks(cands, first))
	}
	return wrong
}

func TestWrongProfiles(t *testing.T) {
	for want, l := range wrongProfiles() {
		for _, p := range l {
			if e := profile.Check(p); e != want {
				t.Errorf("the error of %s is %d; want %d", show(p), int(e), int(want))
			}
			checkError(t, p, 1, []int{0, 1}, api.ErrBad)
			checkError(t, p, 1, upTo(min(max(p.Cands, 0), 20)), api.ErrBad)
			checkError(t, p, 0, nil, api.ErrBad)
		}
	}
}

func TestWrongKinds(t *testing.T) {
	for kind := range 256 {
		for _, p := range []api.Profile{of(2, uint8(kind)), of(2, uint8(kind), row(1, 0, 1)), of(1, uint8(kind), row(1, 0))} {
			if kind == 1 {
				checkCount(t, p, 1, upTo(p.Cands))
				continue
			}
			checkError(t, p, 1, upTo(p.Cands), api.ErrBad)
		}
	}
	for kind := uint8(2); kind <= 3; kind++ {
		checkError(t, fullProfile(kind), 1, upTo(10), api.ErrBad)
	}
}

func TestWrongSeats(t *testing.T) {
	for cands := 1; cands <= 10; cands++ {
		p := ranks(cands, row(2, 0))
		for _, seats := range append(wilds(), cands, cands+1, cands-1, 1+1<<8, 1+1<<16, 1-1<<32, 1+1<<62, -cands) {
			if seats == 1 {
				checkCount(t, p, seats, upTo(cands))
				continue
			}
			checkError(t, p, seats, upTo(cands), api.ErrArg)
		}
	}
}

func TestWrongLots(t *testing.T) {
	for cands := 1; cands <= 10; cands++ {
		full := ranks(cands, row(1, upTo(cands)...))
		if cands == 10 {
			full = fullProfile(1)
		}
		for _, lot := range wrongLots(cands) {
			checkError(t, ranks(cands), 1, lot, api.ErrArg)
			checkError(t, full, 1, lot, api.ErrArg)
			checkError(t, full, 2, lot, api.ErrArg)
		}
	}
}

// The model

// counted returns all profiles of these rankings, each of which occurs up to most times.
func counted(cands, most int, rankings [][]int) []api.Profile {
	slices.SortFunc(rankings, slices.Compare)
	all := []api.Profile{ranks(cands)}
	for _, marks := range rankings {
		for _, p := range all {
			for many := 1; many <= most; many++ {
				all = append(all, ranks(cands, slices.Concat(p.Rows, []api.Row{row(many, marks...)})...))
			}
		}
	}
	return all
}

// smallProfiles returns all profiles of few ballots among few candidates.
func smallProfiles() []api.Profile {
	return slices.Concat(
		counted(1, 3, [][]int{{}, {0}}),
		counted(2, 3, [][]int{{}, {0}, {0, 1}, {1}, {1, 0}}),
		counted(3, 2, lots(3)),
		counted(3, 1, [][]int{{}, {0}, {1}, {2}, {0, 1}, {2, 1}, {1, 2, 0}, {2, 0, 1}, {0, 2, 1}}),
		counted(4, 1, [][]int{{0}, {1, 2, 3, 0}, {2, 3, 0, 1}, {3, 0, 1, 2}, {3, 1}, {1, 0, 3}, {2, 1, 3}}),
	)
}

// seen is how many counts had so many rounds, and how many ties were among so many candidates.
type seen struct{ rounds, tied map[int]int }

func look() seen { return seen{map[int]int{}, map[int]int{}} }

func (s seen) add(o api.Outcome) {
	s.rounds[len(o.Rounds)]++
	for _, x := range o.Ties {
		s.tied[len(x.Among)]++
	}
}

func TestSmallProfilesHaveTheModelsOutcomes(t *testing.T) {
	random := rand.New(rand.NewSource(513))
	s := look()
	for _, p := range smallProfiles() {
		if e := profile.Check(p); e != api.OK {
			t.Fatal(show(p), int(e))
		}
		all := lots(p.Cands)
		if p.Cands == 4 {
			all = [][]int{random.Perm(4), random.Perm(4), {3, 2, 1, 0}}
		}
		for _, lot := range all {
			o, _ := checkCount(t, p, 1, lot)
			s.add(o)
		}
	}
	if s.tied[0]+s.tied[1] > 0 || s.tied[2] < 1000 || s.tied[3] < 500 || s.tied[4] < 1 || s.rounds[1] < 1000 || s.rounds[2] < 1000 || s.rounds[3] < 1000 || s.rounds[4] < 5 {
		t.Errorf("there are so many: %v", s)
	}
}

func TestRandomProfilesHaveTheModelsOutcomes(t *testing.T) {
	random := rand.New(rand.NewSource(514))
	s := look()
	for i := range 9000 {
		p := leaning(random)
		if i%3 > 0 {
			p = randomProfile(random, 1+random.Intn(10), api.KindRank)
		}
		if i%3 > 1 {
			p = evened(random, p)
		}
		o, e := checkCount(t, p, 1, random.Perm(p.Cands))
		if e != api.OK {
			t.Fatal(show(p), int(e))
		}
		s.add(o)
	}
	for n := 1; n <= 10; n++ {
		if s.rounds[n] < 30 || n > 1 && s.tied[n] < 30 {
			t.Errorf("there are so many: %v", s)
		}
	}
}

// The outcome

// The form of every outcome, whatever it says; its numbers, by runoff.Firsts for the candidates that are left and by the arithmetic of layer 4; and who is eliminated, by Lasts for them.
func TestTheWholeOutcome(t *testing.T) {
	random := rand.New(rand.NewSource(515))
	for range 3000 {
		p := evened(random, leaning(random))
		lot := random.Perm(p.Cands)
		o := run(t, p, lot)
		left := slices.Repeat([]bool{true}, p.Cands)
		var ties []api.Tie
		for i, r := range o.Rounds {
			had, lost, e := runoff.Firsts(p, left)
			for c, n := range had {
				if e != api.OK || len(r.Had) != p.Cands || !ratio.Same(r.Had[c], ratio.Whole(n)) || !ratio.Same(r.Lost, ratio.Whole(lost)) || !left[c] && n != 0 {
					t.Fatalf("the count of %s: round %d of %v; want %v, %d", show(p), i, o, had, lost)
				}
			}
			last := i == len(o.Rounds)-1
			if last && (!slices.Equal(r.Elected, o.Elected) || len(r.Out) != 0 || !left[r.Elected[0]]) || !last && (len(r.Elected) != 0 || len(r.Out) != 1 || !left[r.Out[0]]) {
				t.Fatalf("the count of %s: round %d of %v", show(p), i, o)
			}
			if last {
				continue
			}
			against, e := coombs.Lasts(p, left)
			if e != api.OK || against[r.Out[0]] != slices.Max(against) {
				t.Fatalf("the count of %s: round %d of %v; against are %v", show(p), i, o, against)
			}
			var among []int
			for c, n := range against {
				if left[c] && n == against[r.Out[0]] {
					among = append(among, c)
				}
			}
			if len(among) > 1 {
				ties = append(ties, tie(r.Out[0], among...))
			}
			left[r.Out[0]] = false
		}
		if !same(api.Outcome{Ties: o.Ties}, api.Outcome{Ties: ties}) {
			t.Errorf("the count of %s: the ties are %v; want %v", show(p), o.Ties, ties)
		}
	}
}

// run returns the outcome of a call that is right, with any lot if there is none.
func run(t *testing.T, p api.Profile, lot []int) api.Outcome {
	t.Helper()
	if lot == nil {
		lot = downFrom(p.Cands)
	}
	o, e := coombs.Count(p, 1, lot)
	if e != api.OK || len(o.Elected) != 1 || len(o.Rounds) == 0 || len(o.Rounds) > p.Cands {
		t.Fatalf("the count of %s, lot %v: %v, %d", show(p), lot, o, int(e))
	}
	return o
}
