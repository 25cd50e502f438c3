package meek_test

import (
	"fmt"
	"math/big"
	"math/rand"
	"slices"
	"strings"
	"testing"

	"suffrage/api"
	"suffrage/meek"
	"suffrage/profile"
)

// P19.1

func check(t *testing.T, p api.Profile, seats int, lot []int, want api.Outcome) {
	t.Helper()
	if o, e := meek.Count(p, seats, lot); !same(o, want) || e != api.OK {
		t.Errorf("the count of %s, %d seats, lot %v: %s, %d; want %s", show(p), seats, lot, tell(o), int(e), tell(want))
	}
	if o, e := modelCount(p, seats, lot); !same(o, want) || e != api.OK {
		t.Errorf("the model's count of %s, %d seats, lot %v: %s, %d; want %s", show(p), seats, lot, tell(o), int(e), tell(want))
	}
}

func checkError(t *testing.T, p api.Profile, seats int, lot []int, want api.Errno) {
	t.Helper()
	if o, e := meek.Count(p, seats, lot); !same(o, api.Outcome{}) || e != want {
		t.Errorf("the count of %s, %d seats, lot %v: %s, %d; want nothing, %d", show(p), seats, lot[:min(len(lot), 50)], tell(o), int(e), int(want))
	}
}

func checkCount(t *testing.T, p api.Profile, seats int, lot []int) (api.Outcome, api.Errno) {
	t.Helper()
	o, e := meek.Count(p, seats, lot)
	want, wantE := modelCount(p, seats, lot)
	if !same(o, want) || e != wantE {
		t.Errorf("the count of %s, %d seats, lot %v: %s, %d; want %s, %d", show(p), seats, lot, tell(o), int(e), tell(want), int(wantE))
	}
	return o, e
}

// run returns the outcome of a call that is right.
func run(t *testing.T, p api.Profile, seats int, lot []int) api.Outcome {
	t.Helper()
	o, e := meek.Count(p, seats, lot)
	if e != api.OK || len(o.Elected) == 0 || len(o.Rounds) == 0 || len(o.Rounds) > p.Cands {
		t.Fatalf("the count of %s, %d seats, lot %v: %s, %d", show(p), seats, lot, tell(o), int(e))
	}
	return o
}

// checkTurns is like check, and wants the model to take so many turns in each round.
func checkTurns(t *testing.T, p api.Profile, seats int, lot []int, turns []int, want api.Outcome) {
	t.Helper()
	check(t, p, seats, lot, want)
	var l []int
	for _, s := range lastTurns(modelTally(p, seats, lot)) {
		l = append(l, s.number)
	}
	if !slices.Equal(l, turns) {
		t.Errorf("the count of %s, %d seats, lot %v has rounds of %v turns; want %v", show(p), seats, lot, l, turns)
	}
}

// lastTurns returns the last turn of each round.
func lastTurns(m *tally) []sums {
	var l []sums
	for i, s := range m.turns {
		if i == len(m.turns)-1 || m.turns[i+1].number == 1 {
			l = append(l, s)
		}
	}
	return l
}

func TestP19_1TheExample(t *testing.T) {
	for _, lot := range lots(3) {
		checkTurns(t, theExample(), 2, lot, []int{1, 2}, untied(won("6 1 3 | 0", 0), won("3.333333336 3.666666664 3 | 0", 1)))
	}
}

// The rest is elected

func TestP19_1AsManyCandidatesAsSeats(t *testing.T) {
	lot := []int{1, 2, 0}
	check(t, ranks(1, row(3, 0)), 1, []int{0}, untied(won("3 | 0", 0)))
	check(t, ranks(2, row(5, 0), row(7, 1)), 2, []int{0, 1}, untied(won("5 7 | 0", 1, 0)))
	check(t, ranks(3, row(2, 0), row(3, 1), row(9, 2)), 3, lot, untied(won("2 3 9 | 0", 2, 1, 0)))
	check(t, ranks(3, row(4), row(2, 0, 2), row(9, 1), row(3, 2, 0)), 3, lot, untied(won("2 9 3 | 0", 1, 2, 0)))
	// Some have no ballots.
	check(t, ranks(3, row(1, 2)), 3, []int{0, 1, 2}, outcome(ties(tie(0, 0, 1)), won("0 0 1 | 0", 2, 0, 1)))
	var rows []api.Row
	for c, n := range []int{3, 1, 4, 15, 9, 2, 6, 5, 35, 8} {
		rows = append(rows, row(n, c, (c+1)%10))
	}
	check(t, ranks(10, rows...), 10, upTo(10), untied(won("3 1 4 15 9 2 6 5 35 8 | 0", 8, 3, 4, 9, 6, 7, 2, 0, 5, 1)))
}

// Where the rest is elected, it makes no difference who has the quota: all are elected in one round, after its first turn.
func TestP19_1TheQuotaWhereTheRestIsElected(t *testing.T) {
	check(t, ranks(2, row(9, 0, 1), row(3, 1)), 2, []int{1, 0}, untied(won("9 3 | 0", 0, 1))) // quota 4.000000001
	check(t, ranks(2, row(3, 0, 1), row(9, 1)), 2, []int{0, 1}, untied(won("3 9 | 0", 1, 0)))
	check(t, sorted(3, row(7, 0, 1, 2), row(4, 1, 2), row(1, 2)), 3, upTo(3), untied(won("7 4 1 | 0", 0, 1, 2))) // quota 3.000000001
	check(t, ranks(1, row(million, 0)), 1, []int{0}, untied(won("1000000 | 0", 0)))
	// After an elimination, two have more than the quota of 2.000000001.
	check(t, ranks(3, row(2, 0), row(2, 1), row(1, 2, 0), row(1, 2, 1)), 2, []int{1, 0, 2}, outcome(ties(tie(2, 0, 1, 2), tie(1, 0, 1)), out("2 2 2 | 0", 2), won("3 3 0 | 0", 1, 0)))
	check(t, ranks(3, row(2, 0), row(2, 1), row(2, 2, 1)), 2, []int{0, 1, 2}, outcome(ties(tie(2, 0, 1, 2)), out("2 2 2 | 0", 2), won("2 4 0 | 0", 1, 0)))
}

// After an elimination, with or without elections before it, exactly as many hopeful candidates are left as seats; and the order is that of what they have by then.
func TestP19_1TheRestAfterOtherRounds(t *testing.T) {
	// Nobody is elected before; the ballots of the eliminated one go over to 2, who is ahead then.
	check(t, sorted(4, row(4, 0), row(4, 1), row(4, 2), row(4, 3, 2)), 3, upTo(4), outcome(ties(tie(3, 0, 1, 2, 3), tie(0, 0, 1)), out("4 4 4 4 | 0", 3), won("4 4 8 0 | 0", 2, 0, 1)))
	// One is elected before, and the elected one has its ballots in the last round too, as many as in the one before.
	checkTurns(t, ranks(5, row(3, 1, 3), row(3, 3, 1)), 3, []int{4, 3, 0, 1, 2}, []int{1, 1, 13, 1, 1}, outcome(ties(tie(3, 1, 3), tie(2, 0, 2, 4), tie(0, 0, 4)),
		won("0 3 0 3 0 | 0", 3),
		won("0 3 0 3 0 | 0", 1),
		out("0 0.001464675 0 0.001464675 0 | 5.99707065", 2),
		out("0 0.001464675 0 0.001464675 0 | 5.99707065", 0),
		won("0 0.001464675 0 0.001464675 0 | 5.99707065", 4)))
}

// The quota

// An equal part of all votes, of one part more than there are seats, is a billionth less than the quota.
func TestP19_1ABillionthLessThanTheQuota(t *testing.T) {
	check(t, ranks(2, row(5, 0), row(5, 1)), 1, []int{1, 0}, outcome(ties(tie(0, 0, 1)), out("5 5 | 0", 0), won("0 5 | 5", 1)))
	check(t, ranks(2, row(4, 0), row(6, 1)), 1, []int{0, 1}, untied(won("4 6 | 0", 1)))
	check(t, ranks(2, row(500000, 0), row(500000, 1)), 1, upTo(2), outcome(ties(tie(1, 0, 1)), out("500000 500000 | 0", 1), won("500000 0 | 500000", 0)))
	check(t, ranks(2, row(499999, 0), row(500001, 1)), 1, upTo(2), untied(won("499999 500001 | 0", 1)))
	check(t, ranks(3, row(3, 0, 1), row(3, 1), row(3, 2, 0)), 2, upTo(3), outcome(ties(tie(2, 0, 1, 2)), out("3 3 3 | 0", 2), won("6 3 0 | 0", 0, 1)))
	// When 1 has 6.666666666 of the quota of 6.666666667, and 0 is close to it, nobody is elected.
	checkTurns(t, sorted(3, row(2, 0, 1), row(8, 0, 2), row(6, 1), row(4, 2)), 2, upTo(3), []int{1, 2, 1}, untied(
		won("10 6 4 | 0", 0),
		out("6.66666667 6.666666666 6.666666664 | 0", 2),
		won("6.66666667 6.666666666 0 | 6.666666664", 1)))
}

// In the fourth turn of the second round, 1 has exactly the quota of 181.246445498.
func TestP19_1ExactlyTheQuota(t *testing.T) {
	p := sorted(3, row(133, 0), row(26, 0, 1), row(24, 0, 2), row(181, 1), row(181, 2))
	checkTurns(t, p, 2, []int{2, 1, 0}, []int{1, 4}, untied(won("183 181 181 | 0", 0), won("181.265402841 181.246445498 181.227488152 | 1.260663509", 1)))
	m := modelTally(p, 2, []int{2, 1, 0})
	if last := m.turns[len(m.turns)-1]; last.quota != 181246445498 || last.had[1] != last.quota {
		t.Errorf("the last turn of the count of %s: %v", show(p), last)
	}
}

// With more than the quota a candidate is elected, and keeps less and less of each ballot from then on.
func TestP19_1MoreThanTheQuota(t *testing.T) {
	p := sorted(4, row(6, 0, 1), row(2, 0, 2, 1), row(2, 0), row(1, 1), row(3, 2), row(2, 3))
	checkTurns(t, p, 2, upTo(4), []int{1, 5, 2}, untied(
		won("10 1 3 2 | 0", 0),
		out("5.00009877 3.999940738 3.999980246 2 | 0.999980246", 3),
		won("4.33333992 4.399996048 4.133332016 0 | 3.133332016", 1)))
	// 0 keeps 333333333334 / 333335 billionths of each ballot: 1 gets the rest.
	check(t, sorted(3, row(333335, 0, 1), row(333332, 1), row(333333, 2)), 2, upTo(3), untied(won("333335 333332 333333 | 0", 0), won("333333.333658335 333333.666341665 333333 | 0", 1)))
	check(t, sorted(3, row(500002, 0, 1), row(499998, 2)), 1, upTo(3), untied(won("500002 0 499998 | 0", 0)))
	check(t, ranks(3, row(4, 0), row(3, 1), row(2, 2)), 2, upTo(3), untied(won("4 3 2 | 0", 0), won("3.000000004 3 2 | 0.999999996", 1)))
}

// Of several with the quota, the one with the most is elected first, in one round; another one in the next.
func TestP19_1SeveralWithTheQuota(t *testing.T) {
	checkTurns(t, ranks(4, row(5, 0, 2), row(7, 1, 2), row(2, 2), row(3, 3)), 3, upTo(4), []int{1, 1, 2}, untied(
		won("5 7 2 3 | 0", 1),
		won("5 7 2 3 | 0", 0),
		won("4.250000005 4.250000006 5.499999989 3 | 0", 2)))
	check(t, ranks(4, row(6, 0), row(9, 1, 2), row(4, 2), row(2, 3)), 3, upTo(4), untied(
		won("6 9 4 2 | 0", 1),
		won("6 9 4 2 | 0", 0),
		won("5.250000006 5.250000006 7.749999994 2 | 0.749999994", 2)))
	check(t, ranks(3, row(5, 0), row(7, 1, 0, 2), row(1, 2)), 2, upTo(3), untied(won("5 7 1 | 0", 1), won("5 7 1 | 0", 0)))
}

// The end of a round by an elimination

// Without an elected candidate, a round has one turn.
func TestP19_1NobodyIsElected(t *testing.T) {
	checkTurns(t, ranks(4, row(4, 0), row(3, 1), row(2, 2, 1), row(1, 3, 2)), 1, upTo(4), []int{1, 1, 1}, outcome(ties(tie(2, 1, 2)), out("4 3 2 1 | 0", 3), out("4 3 3 0 | 0", 2), won("4 5 0 0 | 1", 1)))
	checkTurns(t, ranks(4, row(4, 0), row(3, 1), row(2, 2, 1), row(1, 3, 2, 1)), 1, upTo(4), []int{1, 1, 1}, outcome(ties(tie(2, 1, 2)), out("4 3 2 1 | 0", 3), out("4 3 3 0 | 0", 2), won("4 6 0 0 | 0", 1)))
}

// With exactly Close beyond the quota of 28.027053692, 0 is close to it, and 5 is eliminated after the sixth turn.
func TestP19_1ExactlyClose(t *testing.T) {
	p := sorted(6, row(31, 0), row(5, 0, 1), row(22, 1), row(23, 2), row(24, 3), row(25, 4), row(17, 5))
	checkTurns(t, p, 4, upTo(6), []int{1, 6, 1, 2, 3}, untied(
		won("36 22 23 24 25 17 | 0", 0),
		out("28.028053692 23.107214765 23 24 25 17 | 6.864731543", 5),
		won("28.028053692 23.107214765 23 24 25 0 | 23.864731543", 4),
		won("24.6270537 23.579575875 23 24 24.6270537 0 | 27.166316725", 3),
		won("23.714299332 23.706347315 23 23.71429932 23.714299325 0 | 29.150754708", 1)))
	if s := lastTurns(modelTally(p, 4, upTo(6)))[1]; s.had[0]-s.quota != beyond {
		t.Errorf("0 has %d of %d", s.had[0], s.quota)
	}
}

// With a billionth more than Close beyond the quota of 26.889000001, 0 is not close to it after the fifth turn.
func TestP19_1ABillionthMoreThanClose(t *testing.T) {
	p := sorted(6, row(19, 0), row(19, 0, 1), row(14, 1), row(25, 2), row(24, 3), row(23, 4), row(16, 5))
	checkTurns(t, p, 4, upTo(6), []int{1, 6, 1, 1, 3}, untied(
		won("38 14 25 24 23 16 | 0", 0),
		out("26.889000032 19.555499984 25 24 23 16 | 5.555499984", 5),
		won("26.889000032 19.555499984 25 24 23 0 | 21.555499984", 2),
		won("26.889000032 19.555499984 25 24 23 0 | 21.555499984", 3),
		won("23.044450048 21.477774976 23.044450025 23.044450032 23 0 | 26.388874919", 4)))
	if s := modelTally(p, 4, upTo(6)).turns[5]; s.number != 5 || s.had[0]-s.quota != beyond+1 {
		t.Errorf("0 has %d of %d in turn %d", s.had[0], s.quota, s.number)
	}
}

// slow returns a profile in which 0 and 1 pass what they have beyond the quota to each other, turn after turn.
func slow(n int) api.Profile {
	return sorted(5, row(n, 0, 1, 4), row(n, 1, 0, 4), row(n-1, 2), row(n-1, 3), row(1, 4))
}

// Turn number MaxTurns is the last of a round, even if it is too early: with 830 ballots for each of them, 0 and 1 are close to the quota just then, and with 831 they are not.
func TestP19_1MaxTurns(t *testing.T) {
	lot := upTo(5)
	checkTurns(t, slow(822), 3, lot, []int{1, 1, 199, 191, 1}, outcome(ties(tie(0, 0, 1), tie(3, 2, 3)),
		won("822 822 821 821 1 | 0", 0),
		won("822 822 821 821 1 | 0", 1),
		out("821.75099976 821.75099976 821 821 1.49800048 | 0", 4),
		out("821.001961302 821.001961302 821 821 0 | 2.996077396", 3),
		won("821.001961302 821.001961302 821 0 0 | 823.996077396", 2)))
	checkTurns(t, slow(830), 3, lot, []int{1, 1, 200, 192, 1}, outcome(ties(tie(0, 0, 1), tie(3, 2, 3)),
		won("830 830 829 829 1 | 0", 0),
		won("830 830 829 829 1 | 0", 1),
		out("829.75099834 829.75099834 829 829 1.49800332 | 0", 4),
		out("829.00195488 829.00195488 829 829 0 | 2.99609024", 3),
		won("829.00195488 829.00195488 829 0 0 | 831.99609024", 2)))
	checkTurns(t, slow(831), 3, lot, []int{1, 1, 200, 192, 1}, outcome(ties(tie(0, 0, 1), tie(3, 2, 3)),
		won("831 831 830 830 1 | 0", 0),
		won("831 831 830 830 1 | 0", 1),
		out("830.751002484 830.751002484 830 830 1.497995032 | 0", 4),
		out("830.001962352 830.001962352 830 830 0 | 2.996075296", 3),
		won("830.001962352 830.001962352 830 0 0 | 832.996075296", 2)))
	// Each round has as many turns of its own.
	checkTurns(t, slow(1000), 3, lot, []int{1, 1, 200, 200, 1}, outcome(ties(tie(0, 0, 1), tie(3, 2, 3)),
		won("1000 1000 999 999 1 | 0", 0),
		won("1000 1000 999 999 1 | 0", 1),
		out("999.751842 999.751842 999 999 1.496316 | 0", 4),
		out("999.002704 999.002704 999 999 0 | 2.994592", 3),
		won("999.002704 999.002704 999 0 0 | 1001.994592", 2)))
	for _, c := range []struct {
		n     int
		close bool
	}{{830, true}, {831, false}, {1000, false}} {
		if s := lastTurns(modelTally(slow(c.n), 3, lot))[2]; s.number != turns || (s.had[0]-s.quota <= beyond) != c.close {
			t.Errorf("with %d ballots, 0 has %d of %d in turn %d", c.n, s.had[0], s.quota, s.number)
		}
	}
}

func TestP19_1WhoIsEliminated(t *testing.T) {
	lot := []int{2, 0, 3, 1}
	for _, c := range []struct {
		name string
		had  [4]int
		ties []api.Tie
		out  int
	}{
		{"one has the least", [4]int{4, 3, 5, 2}, nil, 3},
		{"the first in the lot has", [4]int{4, 3, 2, 5}, nil, 2},
		{"the last in the lot has", [4]int{4, 2, 3, 5}, nil, 1},
		{"one has none", [4]int{0, 4, 4, 3}, nil, 0},
		{"two have the least", [4]int{2, 3, 2, 4}, ties(tie(0, 0, 2)), 0},
		{"two others", [4]int{3, 2, 3, 2}, ties(tie(1, 1, 3)), 1},
		{"the last two in the lot do not", [4]int{2, 3, 2, 3}, ties(tie(0, 0, 2)), 0},
		{"three have", [4]int{1, 2, 1, 1}, ties(tie(3, 0, 2, 3)), 3},
		{"all have", [4]int{2, 2, 2, 2}, ties(tie(1, 0, 1, 2, 3)), 1},
		{"two have none", [4]int{2, 2, 0, 0}, ties(tie(3, 2, 3)), 3},
		{"two have the most", [4]int{5, 1, 2, 5}, nil, 1},
	} {
		t.Run(c.name, func(t *testing.T) {
			var rows []api.Row
			for x, n := range c.had {
				if n > 0 {
					rows = append(rows, row(n, x))
				}
			}
			o, _ := checkCount(t, ranks(4, rows...), 1, lot)
			decided := slices.DeleteFunc(o.Ties, func(x api.Tie) bool { return x.Chosen != c.out })
			first := api.Outcome{Rounds: o.Rounds[:1], Ties: decided}
			if want := (api.Outcome{Rounds: []api.Round{out(strings.Trim(fmt.Sprint(c.had), "[]")+"|0", c.out)}, Ties: c.ties}); !same(first, want) {
				t.Errorf("%s; want %s", tell(first), tell(want))
			}
		})
	}
}

// What is for the eliminated goes on to the next candidate on the ballot, also to an elected one, which keeps its part.
func TestP19_1BallotsOfTheEliminated(t *testing.T) {
	// 0 keeps a part of each of the 3 ballots of 1, and 3 gets the rest.
	checkTurns(t, sorted(4, row(8, 0, 2), row(3, 1, 0, 3), row(4, 2), row(5, 3)), 2, upTo(4), []int{1, 2, 2}, untied(
		won("8 3 4 5 | 0", 0),
		out("6.666666672 3 5.333333328 5 | 0", 1),
		won("6.666666677 0 7.151515144 6.181818179 | 0", 2)))
	// Both 0 and 1 keep their parts of the 2 ballots of 2.
	checkTurns(t, sorted(5, row(9, 0, 1), row(7, 1, 0), row(2, 2, 0, 1, 4), row(4, 3), row(5, 4)), 3, upTo(5), []int{1, 1, 20, 1}, untied(
		won("9 7 2 4 5 | 0", 0),
		won("9 7 2 4 5 | 0", 1),
		out("5.501490858 5.501549014 2 4 5 | 4.996960128", 2),
		won("6.359235098 6.019184758 0 4 5.624620016 | 4.996960128", 4)))
	// The 3 ballots of 2 go to 1.
	checkTurns(t, sorted(4, row(4, 0), row(4, 0, 1), row(4, 0, 1, 2), row(3, 1), row(3, 2, 1), row(4, 3)), 2, upTo(4), []int{1, 5, 1}, untied(
		won("12 3 3 4 | 0", 0),
		out("6.750800196 6.499466536 3 4 | 1.749733268", 2),
		won("6.750800196 9.499466536 0 4 | 1.749733268", 1)))
}

// Candidates without ballots are eliminated first, one after the other, as the lot has them from its end.
func TestP19_1CandidatesWithoutBallots(t *testing.T) {
	check(t, ranks(5, row(3, 1, 3), row(3, 3, 1)), 1, upTo(5), outcome(ties(tie(4, 0, 2, 4), tie(2, 0, 2), tie(3, 1, 3)), out("0 3 0 3 0 | 0", 4), out("0 3 0 3 0 | 0", 2), out("0 3 0 3 0 | 0", 0), out("0 3 0 3 0 | 0", 3), won("0 6 0 0 0 | 0", 1)))
}

// Keep values

// In each turn of the second round, keep values change for the elected candidates that have more than the quota, and for no other one: 2 has two billionths less than it in the fourth turn, when 3 has more.
func TestP19_1KeepValues(t *testing.T) {
	p := sorted(5, row(3, 0, 1, 4), row(4, 1, 3), row(3, 2, 3, 0), row(11, 3, 2, 4))
	checkTurns(t, p, 3, upTo(5), []int{1, 2, 8, 5}, untied(
		won("3 4 3 11 0 | 0", 3),
		won("3 4 8.749999992 5.250000008 0 | 0", 2),
		out("3.749955282 4 5.250000008 5.250208676 2.749836034 | 0", 4),
		won("4.197432075 4 4.214823915 4.197159735 0 | 4.390584275", 0)))
	s := modelTally(p, 3, upTo(5)).turns[6]
	if s.number != 4 || s.had[2] != s.quota-2 || s.had[3] <= s.quota+beyond {
		t.Errorf("turn %d has %v, quota %d", s.number, s.had, s.quota)
	}
	for _, c := range []struct{ keep, n, quota, want int }{ // of 3, 2 and 3 again, by the turns of the model
		{unit, 11 * unit, 5250000001, 477272728},
		{unit, 8749999992, 5250000001, 600000001},
		{477272728, 5822727281, 5250000001, 430327869},
		{600000001, 5559836083, 5250000001, 566563467},
	} {
		if keep, e := meek.Keep(c.keep, c.n, c.quota); keep != c.want || e != api.OK {
			t.Errorf("Keep(%d, %d, %d) = %d, %d; want %d", c.keep, c.n, c.quota, keep, int(e), c.want)
		}
	}
}

// The keep values stay from round to round: after the election of 1, 0 keeps less of what it has kept.
func TestP19_1KeepValuesOfSeveralRounds(t *testing.T) {
	checkTurns(t, sorted(4, row(10, 0, 1, 2), row(4, 1, 3), row(3, 2), row(4, 3)), 3, upTo(4), []int{1, 2, 2}, untied(
		won("10 4 3 4 | 0", 0),
		won("5.25000001 8.74999999 3 4 | 0", 1),
		won("5.25000001 5.250000004 4.89999999 5.599999996 | 0", 3)))
	checkTurns(t, sorted(5, row(8, 0, 1, 2), row(9, 1, 0, 2), row(1, 2), row(2, 3), row(3, 4)), 3, upTo(5), []int{1, 1, 4}, untied(
		won("8 9 1 2 3 | 0", 1),
		won("8 9 1 2 3 | 0", 0),
		won("6.024434728 5.918882904 6.056682368 2 3 | 0", 2)))
	checkTurns(t, ranks(6, row(29, 0, 1, 2, 3, 4, 5)), 5, upTo(6), []int{1, 2, 2, 2, 2}, untied(
		won("29 0 0 0 0 0 | 0", 0),
		won("4.833333343 24.166666657 0 0 0 0 | 0", 1),
		won("4.833333343 4.833333372 19.333333285 0 0 0 | 0", 2),
		won("4.833333343 4.833333343 4.833333372 14.499999942 0 0 | 0", 3),
		won("4.833333343 4.833333343 4.833333343 4.833333372 9.666666599 0 | 0", 4)))
	check(t, sorted(5, row(7, 0, 1, 2, 3, 4), row(3, 3), row(2, 4)), 4, upTo(5), untied(
		won("7 0 0 3 2 | 0", 0),
		won("7 0 0 3 2 | 0", 3),
		won("2.400000001 4.599999999 0 2.400000003 2 | 0.599999997", 1),
		won("2.280000002 2.339478267 2.380521731 2.280000003 2 | 0.719999997", 2)))
}

// The end

// The count ends with the last seat, however many candidates are hopeful by then.
func TestP19_1NoSeatIsLeft(t *testing.T) {
	check(t, ranks(3, row(6, 0), row(3, 1), row(2, 2)), 1, []int{2, 1, 0}, untied(won("6 3 2 | 0", 0)))
	check(t, ranks(4, row(4, 0), row(5, 1), row(1, 2), row(1, 3)), 2, downFrom(4), untied(won("4 5 1 1 | 0", 1), won("4 5 1 1 | 0", 0)))
	check(t, ranks(5, row(5, 0), row(5, 1), row(5, 2), row(1, 3), row(1, 4)), 3, []int{3, 1, 2, 0, 4}, outcome(ties(tie(1, 0, 1, 2), tie(2, 0, 2)), won("5 5 5 1 1 | 0", 1), won("5 5 5 1 1 | 0", 2), won("5 5 5 1 1 | 0", 0)))
	for seats := 1; seats < 10; seats++ { // as many with ballots as seats, and all have more than the quota
		var rows []api.Row
		var rounds []api.Round
		had := make([]int, 10)
		for c := range seats {
			rows, had[c] = append(rows, row(1000-c, c)), 1000-c
		}
		for c := range seats {
			rounds = append(rounds, won(strings.Trim(fmt.Sprint(had), "[]")+"| 0", c))
		}
		check(t, ranks(10, rows...), seats, downFrom(10), untied(rounds...))
	}
}

// Ties

func TestP19_1TheRestIsTied(t *testing.T) {
	p := ranks(4, row(2, 0), row(3, 1), row(3, 2), row(3, 3))
	check(t, p, 4, []int{0, 3, 1, 2}, outcome(ties(tie(3, 1, 2, 3), tie(1, 1, 2)), won("2 3 3 3 | 0", 3, 1, 2, 0)))
	check(t, p, 4, []int{2, 1, 0, 3}, outcome(ties(tie(2, 1, 2, 3), tie(1, 1, 3)), won("2 3 3 3 | 0", 2, 1, 3, 0)))
	p = ranks(4, row(2, 0), row(3, 1), row(2, 2), row(3, 3))
	check(t, p, 4, []int{2, 3, 0, 1}, outcome(ties(tie(3, 1, 3), tie(2, 0, 2)), won("2 3 2 3 | 0", 3, 1, 2, 0)))
	for _, lot := range lots(4) {
		want := ties(tie(lot[0], 0, 1, 2, 3), tie(lot[1], slices.Sorted(slices.Values(lot[1:]))...), tie(lot[2], slices.Sorted(slices.Values(lot[2:]))...))
		check(t, ranks(4, row(1, 0), row(1, 1), row(1, 2), row(1, 3)), 4, lot, outcome(want, won("1 1 1 1 | 0", lot...)))
	}
}

// Several with the most are tied, and the one that comes first in the lot is elected; the others may be tied again.
func TestP19_1TiesForTheMost(t *testing.T) {
	p := ranks(5, row(5, 0), row(5, 1), row(4, 2), row(1, 3), row(1, 4))
	check(t, p, 3, []int{3, 1, 2, 0, 4}, outcome(ties(tie(1, 0, 1)), won("5 5 4 1 1 | 0", 1), won("5 5 4 1 1 | 0", 0), won("4.000000005 4.000000005 4 1 1 | 1.99999999", 2)))
	p = ranks(5, row(7, 0), row(7, 1), row(6, 2), row(7, 3), row(1, 4)) // quota 5.6
	for _, lot := range [][]int{{0, 1, 2, 3, 4}, {4, 3, 2, 1, 0}, {2, 1, 0, 4, 3}, {2, 4, 1, 3, 0}} {
		order := slices.DeleteFunc(slices.Clone(lot), func(c int) bool { return c == 2 || c == 4 })
		var rounds []api.Round
		for _, c := range append(order, 2)[:4] {
			rounds = append(rounds, won("7 7 6 7 1 | 0", c))
		}
		check(t, p, 4, lot, outcome(ties(tie(order[0], 0, 1, 3), tie(order[1], slices.Sorted(slices.Values(order[1:]))...)), rounds...))
	}
	// Two are tied only because of what 0 does not keep; and the quota is less when 4 is out.
	p = sorted(5, row(8, 0, 1), row(8, 0, 2), row(2, 1), row(2, 2), row(4, 3), row(3, 4))
	for first, lot := range map[int][]int{1: upTo(5), 2: downFrom(5)} {
		check(t, p, 3, lot, outcome(ties(tie(first, 1, 2)),
			won("16 2 2 4 3 | 0", 0),
			out("6.750000016 6.624999992 6.624999992 4 3 | 0", 4),
			won("6.750000016 6.624999992 6.624999992 4 0 | 3", first),
			won("6.750000016 6.624999992 6.624999992 4 0 | 3", 3-first)))
	}
}

// Several with the least are tied, and the one that comes last in the lot is eliminated; and parts of votes may be equal.
func TestP19_1TiesForTheLeast(t *testing.T) {
	for _, lot := range lots(4) {
		order := others(lot, 3)
		had := []int{1, 1, 1, 2}
		text := func(lost int) string { return fmt.Sprint(strings.Trim(fmt.Sprint(had), "[]"), "|", lost) }
		rounds := []api.Round{out(text(0), order[2])}
		had[order[2]] = 0
		rounds = append(rounds, out(text(1), order[1])) // quota 2.000000001
		had[order[1]] = 0
		rounds = append(rounds, won(text(2), 3)) // quota 1.500000001
		check(t, ranks(4, row(1, 0), row(1, 1), row(1, 2), row(2, 3)), 1, lot, outcome(ties(tie(order[2], 0, 1, 2), tie(order[1], slices.Sorted(slices.Values(order[:2]))...)), rounds...))
	}
	p := sorted(4, row(4, 0, 1), row(4, 0, 2), row(1, 1), row(1, 2), row(4, 3))
	for last, lot := range map[int][]int{2: upTo(4), 1: {3, 2, 1, 0}} {
		had := []string{"4.666666672", "2.666666664", "2.666666664", "4", "|"}
		first := won("8 1 1 4 | 0", 0)
		second := out(strings.Join(append(had, "0"), " "), last)
		had[last] = "0"
		check(t, p, 2, lot, outcome(ties(tie(last, 1, 2)), first, second, won(strings.Join(append(had, "2.666666664"), " "), 3)))
	}
	// Two billionths make a difference, whatever the lot.
	for _, lot := range lots(3) {
		check(t, sorted(3, row(2, 0, 1), row(8, 0, 2), row(6, 1), row(4, 2)), 2, lot, untied(won("10 6 4 | 0", 0), out("6.66666667 6.666666666 6.666666664 | 0", 2), won("6.66666667 6.666666666 0 | 6.666666664", 1)))
	}
}

// All ties of a count, in the order in which they occur: for the most, for the least, and for the most again; between them are rounds without a tie.
func TestP19_1TiesOfAWholeCount(t *testing.T) {
	p := ranks(7, row(8, 0), row(8, 1), row(4, 2), row(2, 3), row(2, 4), row(3, 5), row(3, 6))
	rounds := func(first, second, third, fourth, fifth int) []api.Round {
		had := []string{"3.000651048", "3.000651048", "3.000651048", "2", "2", "3", "3", "| 12.998046856"}
		had[third] = "0"
		last := strings.Join(had, " ")
		return []api.Round{
			won("8 8 4 2 2 3 3 | 0", first),
			won("8 8 4 2 2 3 3 | 0", second),
			won("4.000000008 4.000000008 4 2 2 3 3 | 7.999999984", 2),
			out("3.334635424 3.334635424 3.33463542 2 2 3 3 | 9.996093732", third),
			won(last, fourth),
			won(last, fifth),
		}
	}
	check(t, p, 5, []int{5, 6, 4, 3, 2, 1, 0}, outcome(ties(tie(1, 0, 1), tie(3, 3, 4), tie(5, 5, 6)), rounds(1, 0, 3, 5, 6)...))
	check(t, p, 5, []int{0, 1, 2, 3, 4, 6, 5}, outcome(ties(tie(0, 0, 1), tie(4, 3, 4), tie(6, 5, 6)), rounds(0, 1, 4, 6, 5)...))
}

// Values

// What passes to nobody is lost, in each turn more, and the quota sinks with it.
func TestP19_1WhatIsLost(t *testing.T) {
	checkTurns(t, sorted(5, row(9, 0), row(4, 1, 0), row(2, 2, 0, 1), row(3, 3), row(4, 4)), 2, upTo(5), []int{1, 8, 7, 2}, untied(
		won("9 4 2 3 4 | 0", 0),
		out("6.501143124 4 2 3 4 | 2.498856876", 2),
		out("5.959151198 4.916517964 0 3 4 | 4.124330838", 3),
		won("4.958556394 5.098444292 0 0 4 | 7.942999314", 1)))
	checkTurns(t, sorted(4, row(5, 0), row(5, 0, 1), row(2, 1), row(4, 2), row(3, 3, 0)), 2, upTo(4), []int{1, 6, 2}, untied(
		won("10 2 4 3 | 0", 0),
		out("5.60056585 4.199717075 4 3 | 2.199717075", 3),
		won("5.160150905 5.015326575 4 0 | 4.82452252", 1)))
}

// A blank ballot is no vote, so that it neither is lost nor makes a quota greater.
func TestP19_1BlankBallots(t *testing.T) {
	for _, blank := range []int{1, 2, 5, 10, 999990} {
		check(t, sorted(3, row(blank), row(6, 0, 1), row(1, 1), row(3, 2)), 2, upTo(3), untied(won("6 1 3 | 0", 0), won("3.333333336 3.666666664 3 | 0", 1)))
		check(t, sorted(2, row(blank), row(5, 0), row(5, 1)), 1, []int{1, 0}, outcome(ties(tie(0, 0, 1)), out("5 5 | 0", 0), won("0 5 | 5", 1)))
	}
}

// Edges

// byLot returns the outcome if there are no votes: in the order of the lot, those at its end are eliminated, and the others elected.
func byLot(seats int, lot []int) api.Outcome {
	var rounds []api.Round
	var decisions []api.Tie
	none := strings.Repeat("0 ", len(lot)) + "| 0"
	decide := func(c int, among []int) {
		if len(among) > 1 {
			decisions = append(decisions, tie(c, slices.Sorted(slices.Values(among))...))
		}
	}
	for n := len(lot); n > seats; n-- {
		rounds = append(rounds, out(none, lot[n-1]))
		decide(lot[n-1], lot[:n])
	}
	for i, c := range lot[:seats] {
		decide(c, lot[i:seats])
	}
	return outcome(decisions, append(rounds, won(none, lot[:seats]...))...)
}

// Without votes the quota is a billionth, which nobody has.
func TestP19_1NoVotes(t *testing.T) {
	for cands := 1; cands <= 10; cands++ {
		for seats := 1; seats <= cands; seats++ {
			for _, p := range []api.Profile{ranks(cands), ranks(cands, row(1)), ranks(cands, row(7)), ranks(cands, row(million))} {
				for _, lot := range [][]int{upTo(cands), downFrom(cands), append(others(upTo(cands), cands/2), cands/2)} {
					check(t, p, seats, lot, byLot(seats, lot))
				}
			}
			if quota, e := meek.Quota(0, 0, seats); quota != 1 || e != api.OK {
				t.Errorf("the quota of no votes and %d seats is %d, %d", seats, quota, int(e))
			}
		}
	}
	for _, lot := range lots(4) {
		for seats := 1; seats <= 4; seats++ {
			check(t, ranks(4), seats, lot, byLot(seats, lot))
			check(t, ranks(4, row(6)), seats, lot, byLot(seats, lot))
		}
	}
}

func TestP19_1OneCandidateAlone(t *testing.T) {
	for _, p := range []api.Profile{ranks(1), ranks(1, row(7)), ranks(1, row(7, 0)), ranks(1, row(999999), row(1, 0)), ranks(1, row(million, 0))} {
		check(t, p, 1, []int{0}, untied(won(fmt.Sprint(modelVotes(p), "| 0"), 0)))
		for _, seats := range []int{-1, 0, 2, 10} {
			checkError(t, p, seats, []int{0}, api.ErrArg)
		}
	}
}

func TestP19_1OneVote(t *testing.T) {
	check(t, ranks(3, row(1, 1, 2)), 1, upTo(3), untied(won("0 1 0 | 0", 1)))
	check(t, ranks(3, row(1, 1, 2)), 2, upTo(3), untied(won("0 1 0 | 0", 1), won("0 0.333333334 0.666666666 | 0", 2)))
	check(t, ranks(3, row(1, 1, 2)), 3, upTo(3), outcome(ties(tie(0, 0, 2)), won("0 1 0 | 0", 1, 0, 2)))
	// When 4 is elected as well, what all three keep sinks with the quota, until the rest is elected without ballots.
	checkTurns(t, ranks(10, row(1, 5, 7, 4)), 9, downFrom(10), []int{1, 2, 2, 6, 1}, outcome(ties(tie(0, 0, 1, 2, 3, 6, 8, 9), tie(9, 1, 2, 3, 6, 8, 9), tie(8, 1, 2, 3, 6, 8), tie(6, 1, 2, 3, 6), tie(3, 1, 2, 3), tie(2, 1, 2)),
		won("0 0 0 0 0 1 0 0 0 0 | 0", 5),
		won("0 0 0 0 0 0.100000001 0 0.899999999 0 0 | 0", 7),
		won("0 0 0 0 0.799999997 0.100000001 0 0.100000002 0 0 | 0", 4),
		out("0 0 0 0 0.000906896 0.000903087 0 0.000904977 0 0 | 0.99728504", 0),
		won("0 0 0 0 0.000906896 0.000903087 0 0.000904977 0 0 | 0.99728504", 9, 8, 6, 3, 2, 1)))
}

func TestP19_1TenCandidates(t *testing.T) {
	var rows []api.Row
	for c := range 10 { // the ballots of each candidate go to the next one
		rows = append(rows, row(10+c, append(upTo(10)[c:], upTo(c)...)...))
	}
	check(t, ranks(10, rows...), 3, upTo(10), untied( // quota 36.250000001
		out("10 11 12 13 14 15 16 17 18 19 | 0", 0),
		out("0 21 12 13 14 15 16 17 18 19 | 0", 2),
		out("0 21 0 25 14 15 16 17 18 19 | 0", 4),
		out("0 21 0 25 0 29 16 17 18 19 | 0", 6),
		out("0 21 0 25 0 29 0 33 18 19 | 0", 8),
		won("0 21 0 25 0 29 0 33 0 37 | 0", 9),
		out("0 21.74999999 0 25 0 29 0 33 0 36.25000001 | 0", 1),
		won("0 0 0 46.74999999 0 29 0 33 0 36.25000001 | 0", 3),
		won("0 0 0 36.25000005 0 39.49999994 0 33 0 36.25000001 | 0", 5)))
}

// As many ballots, and as many rows, as the limits allow.
func TestP19_1AtTheLimits(t *testing.T) {
	check(t, ranks(2, row(million, 1)), 1, upTo(2), untied(won("0 1000000 | 0", 1)))
	check(t, ranks(4, row(million, 0, 1, 2, 3)), 3, upTo(4), untied(won("1000000 0 0 0 | 0", 0), won("250000.001 749999.999 0 0 | 0", 1), won("250000.001 250000.001 499999.998 0 | 0", 2)))
	check(t, sorted(6, row(999997, 0, 1, 2, 3, 4, 5), row(3, 5)), 5, upTo(6), untied(
		won("999997 0 0 0 0 3 | 0", 0),
		won("166666.666998499 833330.333001501 0 0 0 3 | 0", 1),
		won("166666.666998499 166666.667998496 666663.665003005 0 0 3 | 0", 2),
		won("166666.666998499 166666.666998499 166666.667998496 499996.998004506 0 3 | 0", 3),
		won("166666.666998499 166666.666998499 166666.666998499 166666.667998496 333330.331006007 3 | 0", 4)))
	for _, p := range []api.Profile{fullProfile(1), unevenProfile()} {
		for seats := 1; seats <= 10; seats++ {
			for _, lot := range [][]int{upTo(10), downFrom(10), {3, 1, 4, 0, 5, 9, 2, 6, 8, 7}} {
				if o, e := checkCount(t, p, seats, lot); e != api.OK {
					t.Errorf("the count of %s: %s, %d", show(p), tell(o), int(e))
				}
			}
		}
	}
}

// Errors

func TestP19_1WrongProfiles(t *testing.T) {
	for want, l := range wrongProfiles() {
		for _, p := range l {
			if e := profile.Check(p); e != want {
				t.Errorf("the error of %s is %d; want %d", show(p), int(e), int(want))
			}
			checkError(t, p, 1, []int{0, 1}, api.ErrBad)
			checkError(t, p, 1, upTo(min(max(p.Cands, 0), 20)), api.ErrBad)
			checkError(t, p, 0, nil, api.ErrBad)
		}
	}
}

func TestP19_1WrongKinds(t *testing.T) {
	for kind := range 256 {
		for _, p := range []api.Profile{of(2, uint8(kind)), of(2, uint8(kind), row(1, 0, 1)), of(1, uint8(kind), row(1, 0))} {
			for seats := range 4 {
				if kind == 1 {
					checkCount(t, p, seats, upTo(p.Cands))
					continue
				}
				checkError(t, p, seats, upTo(p.Cands), api.ErrBad)
			}
		}
	}
	for kind := uint8(2); kind <= 3; kind++ {
		checkError(t, fullProfile(kind), 1, upTo(10), api.ErrBad)
		checkError(t, fullProfile(kind), 10, upTo(10), api.ErrBad)
	}
}

func TestP19_1WrongSeats(t *testing.T) {
	for cands := 1; cands <= 10; cands++ {
		p := ranks(cands, row(2, 0))
		for _, seats := range append(wilds(), cands-1, cands, cands+1, 1+1<<8, 1+1<<16, 1-1<<32, 1+1<<62, -cands) {
			if seats >= 1 && seats <= cands {
				checkCount(t, p, seats, upTo(cands))
				continue
			}
			checkError(t, p, seats, upTo(cands), api.ErrArg)
			checkError(t, ranks(cands), seats, upTo(cands), api.ErrArg)
		}
	}
}

func TestP19_1WrongLots(t *testing.T) {
	for cands := 1; cands <= 10; cands++ {
		full := ranks(cands, row(1, upTo(cands)...))
		if cands == 10 {
			full = fullProfile(1)
		}
		for _, lot := range wrongLots(cands) {
			checkError(t, ranks(cands), 1, lot, api.ErrArg)
			checkError(t, full, 1, lot, api.ErrArg)
			checkError(t, full, cands, lot, api.ErrArg)
			checkError(t, full, cands+1, lot, api.ErrArg)
		}
	}
}

// The model

// counted returns all profiles of these rankings, each of which occurs up to most times.
func counted(cands, most int, rankings [][]int) []api.Profile {
	slices.SortFunc(rankings, slices.Compare)
	all := []api.Profile{ranks(cands)}
	for _, marks := range rankings {
		for _, p := range all {
			for many := 1; many <= most; many++ {
				all = append(all, ranks(cands, slices.Concat(p.Rows, []api.Row{row(many, marks...)})...))
			}
		}
	}
	return all
}

// smallProfiles returns all profiles of few ballots among few candidates.
func smallProfiles() []api.Profile {
	return slices.Concat(
		counted(1, 3, [][]int{{}, {0}}),
		counted(2, 3, [][]int{{}, {0}, {0, 1}, {1}, {1, 0}}),
		counted(3, 2, lots(3)),
		counted(3, 1, [][]int{{}, {0}, {1}, {2}, {0, 1}, {2, 1}, {1, 2, 0}, {2, 0, 1}, {0, 2, 1}}),
		counted(4, 1, [][]int{{0}, {1, 2, 3, 0}, {2, 3, 0, 1}, {3, 0, 1, 2}, {3, 1}, {1, 0, 3}, {2, 1, 3}}),
	)
}

// seen is how often something occurred in counts, by a text of it.
type seen map[string]int

// turn adds what a turn of a model's count has: these candidates are elected before it, and more tells whether another turn follows.
func (s seen) turn(x sums, elected []int, more bool) {
	for _, c := range elected {
		switch n := x.had[c] - x.quota; {
		case n < 0:
			s["elected ones below the quota"]++
		case n == 0:
			s["elected ones with exactly the quota"]++
		case n <= beyond && more:
			s["elected ones close to the quota before another turn"]++
		}
	}
	if x.number == turns {
		s["turns number MaxTurns"]++
	}
	if more && len(elected) > 1 {
		s["turns with several keep values"]++
	}
}

// add adds what a count has, which the model has repeated.
func (s seen) add(m *tally) {
	var elected []int
	round := 0
	for i, x := range m.turns {
		more := i+1 < len(m.turns) && m.turns[i+1].number > 1
		s.turn(x, elected, more)
		if more {
			continue
		}
		r, last := m.o.Rounds[round], i+1 == len(m.turns)
		switch {
		case len(r.Out) > 0 && x.number > 1:
			s["eliminated after several turns"]++
		case len(r.Out) > 0:
			s["eliminated"]++
		case len(r.Elected) > 1:
			s["rests of several"]++
		case x.number > 1:
			s["elected after several turns"]++
		case !last:
			s["elected"]++
		}
		if len(r.Lost.Den) == 1 && r.Lost.Den[0] > 1 {
			s["parts of votes lost"]++
		}
		elected = append(elected, r.Elected...)
		round++
	}
	for _, x := range m.o.Ties {
		s[fmt.Sprint("tied among ", len(x.Among))]++
		if slices.Contains(m.o.Elected, x.Chosen) {
			s["elected by lot"]++
		}
	}
	s[fmt.Sprint(len(m.o.Rounds), " rounds")]++
	s[fmt.Sprint(m.seats, " seats")]++
}

func (s seen) check(t *testing.T, least int, kinds ...string) {
	t.Helper()
	for _, kind := range kinds {
		if s[kind] < least {
			t.Errorf("the counts have %s %d times", kind, s[kind])
		}
	}
}

// compare compares a count with that of the model, and adds what it has.
func (s seen) compare(t *testing.T, p api.Profile, seats int, lot []int) {
	t.Helper()
	o, e := meek.Count(p, seats, lot)
	m := modelTally(p, seats, lot)
	if !same(o, m.o) || e != api.OK {
		t.Fatalf("the count of %s, %d seats, lot %v: %s, %d; want %s", show(p), seats, lot, tell(o), int(e), tell(m.o))
	}
	s.add(m)
}

func TestP19_1SmallProfilesHaveTheModelsOutcomes(t *testing.T) {
	random := rand.New(rand.NewSource(1912))
	s := seen{}
	for _, p := range smallProfiles() {
		if e := profile.Check(p); e != api.OK {
			t.Fatal(show(p), int(e))
		}
		all := lots(p.Cands)
		if p.Cands == 4 {
			all = [][]int{random.Perm(4), {3, 2, 1, 0}}
		}
		for seats := 1; seats <= p.Cands; seats++ {
			for _, lot := range all {
				s.compare(t, p, seats, lot)
			}
		}
	}
	s.check(t, 1000, "eliminated", "eliminated after several turns", "rests of several", "elected", "elected after several turns", "parts of votes lost", "elected by lot", "elected ones with exactly the quota", "tied among 2", "tied among 3", "1 rounds", "2 rounds", "3 rounds", "1 seats", "2 seats", "3 seats")
}

// slowly returns a profile that takes many turns, as a few candidates pass to each other what little they have beyond the quota.
func slowly(random *rand.Rand) (p api.Profile, seats int) {
	cands := 4 + random.Intn(4)
	seats = 3 + random.Intn(cands-3)
	p = ranks(cands)
	n := 1 + random.Intn([]int{300, 3000, million / 10}[random.Intn(3)])
	friends := 2 + random.Intn(seats-2)
	for c := range cands {
		marks := []int{c}
		if c < friends {
			marks = append(others(upTo(friends), c), friends+random.Intn(cands-friends))
			random.Shuffle(friends-1, func(i, j int) { marks[i], marks[j] = marks[j], marks[i] })
			marks = append([]int{c}, marks...)
		}
		p = add(p, max(1, n-random.Intn(2)), marks...)
	}
	p = add(p, 1+random.Intn(4), random.Perm(cands)...)
	if seats == cands {
		seats--
	}
	return p, seats
}

func TestP19_1RandomProfilesHaveTheModelsOutcomes(t *testing.T) {
	random := rand.New(rand.NewSource(1913))
	s := seen{}
	for range 12000 {
		p := anyProfile(random)
		s.compare(t, p, 1+random.Intn(p.Cands), random.Perm(p.Cands))
	}
	for range 800 {
		p, seats := slowly(random)
		s.compare(t, p, seats, random.Perm(p.Cands))
	}
	s.check(t, 1000, "eliminated", "eliminated after several turns", "rests of several", "elected", "elected after several turns", "parts of votes lost", "elected by lot", "elected ones with exactly the quota", "elected ones close to the quota before another turn", "turns with several keep values")
	s.check(t, 100, "turns number MaxTurns", "elected ones below the quota")
	for n := 1; n <= 10; n++ {
		s.check(t, 30, fmt.Sprint(n, " rounds"), fmt.Sprint(n, " seats"))
		if n > 1 {
			s.check(t, 30, fmt.Sprint("tied among ", n))
		}
	}
}

// The outcome

// The form of every outcome, whatever it says: who is elected or eliminated in each round, that the eliminated have nothing afterwards, and that all votes are there.
func TestP19_1TheWholeOutcome(t *testing.T) {
	random := rand.New(rand.NewSource(1914))
	for range 4000 {
		p := anyProfile(random)
		seats := 1 + random.Intn(p.Cands)
		o := run(t, p, seats, random.Perm(p.Cands))
		var elected, gone []int
		for i, r := range o.Rounds {
			last := i == len(o.Rounds)-1
			rest := len(elected)+len(r.Elected) == seats
			if len(r.Had) != p.Cands || len(r.Elected)+len(r.Out) == 0 || len(r.Elected) > 0 && len(r.Out) > 0 || len(r.Out) > 1 || len(r.Elected) > 1 && !last || last != rest {
				t.Fatalf("the count of %s: round %d of %s", show(p), i, tell(o))
			}
			sum := ratOf(r.Lost)
			for c, x := range r.Had {
				n := ratOf(x)
				sum.Add(sum, n)
				if slices.Contains(gone, c) && n.Sign() != 0 {
					t.Fatalf("the count of %s: %d in round %d of %s", show(p), c, i, tell(o))
				}
			}
			if sum.Cmp(big.NewRat(int64(modelVotes(p)), 1)) != 0 {
				t.Fatalf("the count of %s: round %d of %s adds up to %v", show(p), i, tell(o), sum)
			}
			elected, gone = append(elected, r.Elected...), append(gone, r.Out...)
		}
		if !slices.Equal(elected, o.Elected) {
			t.Errorf("the count of %s: %s", show(p), tell(o))
		}
	}
}
