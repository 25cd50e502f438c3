package gregory_test

import (
	"fmt"
	"math/big"
	"math/rand"
	"slices"
	"strings"
	"testing"

	"suffrage/api"
	"suffrage/gregory"
	"suffrage/profile"
)

// P18.1

func check(t *testing.T, p api.Profile, seats int, lot []int, want api.Outcome) {
	t.Helper()
	if o, e := gregory.Count(p, seats, lot); !same(o, want) || e != api.OK {
		t.Errorf("the count of %s, %d seats, lot %v: %s, %d; want %s", show(p), seats, lot, tell(o), int(e), tell(want))
	}
	if o, e := modelCount(p, seats, lot); !same(o, want) || e != api.OK {
		t.Errorf("the model's count of %s, %d seats, lot %v: %s, %d; want %s", show(p), seats, lot, tell(o), int(e), tell(want))
	}
}

func checkError(t *testing.T, p api.Profile, seats int, lot []int, want api.Errno) {
	t.Helper()
	if o, e := gregory.Count(p, seats, lot); !same(o, api.Outcome{}) || e != want {
		t.Errorf("the count of %s, %d seats, lot %v: %s, %d; want nothing, %d", show(p), seats, lot[:min(len(lot), 50)], tell(o), int(e), int(want))
	}
}

func checkCount(t *testing.T, p api.Profile, seats int, lot []int) (api.Outcome, api.Errno) {
	t.Helper()
	o, e := gregory.Count(p, seats, lot)
	want, wantE := modelCount(p, seats, lot)
	if !same(o, want) || e != wantE {
		t.Errorf("the count of %s, %d seats, lot %v: %s, %d; want %s, %d", show(p), seats, lot, tell(o), int(e), tell(want), int(wantE))
	}
	return o, e
}

// run returns the outcome of a call that is right.
func run(t *testing.T, p api.Profile, seats int, lot []int) api.Outcome {
	t.Helper()
	o, e := gregory.Count(p, seats, lot)
	if e != api.OK || len(o.Elected) == 0 || len(o.Rounds) == 0 || len(o.Rounds) > p.Cands {
		t.Fatalf("the count of %s, %d seats, lot %v: %s, %d", show(p), seats, lot, tell(o), int(e))
	}
	return o
}

func TestP18_1TheExample(t *testing.T) {
	for _, lot := range lots(3) {
		check(t, theExample(), 2, lot, untied(won("6 1 3 | 0", 0), out("4 2.999999998 3 | 0.000000002", 1), won("4 0 3 | 3", 2)))
	}
}

// The rest is elected

func TestP18_1AsManyCandidatesAsSeats(t *testing.T) {
	lot := []int{1, 2, 0}
	check(t, ranks(1, row(3, 0)), 1, []int{0}, untied(won("3 | 0", 0)))
	check(t, ranks(2, row(5, 0), row(7, 1)), 2, []int{0, 1}, untied(won("5 7 | 0", 1, 0)))
	check(t, ranks(3, row(2, 0), row(3, 1), row(9, 2)), 3, lot, untied(won("2 3 9 | 0", 2, 1, 0)))
	check(t, ranks(3, row(4), row(2, 0, 2), row(9, 1), row(3, 2, 0)), 3, lot, untied(won("2 9 3 | 0", 1, 2, 0)))
	// Some have no ballots.
	check(t, ranks(3, row(1, 2)), 3, []int{0, 1, 2}, outcome(ties(tie(0, 0, 1)), won("0 0 1 | 0", 2, 0, 1)))
	var rows []api.Row
	for c, n := range []int{3, 1, 4, 15, 9, 2, 6, 5, 35, 8} {
		rows = append(rows, row(n, c, (c+1)%10))
	}
	check(t, ranks(10, rows...), 10, upTo(10), untied(won("3 1 4 15 9 2 6 5 35 8 | 0", 8, 3, 4, 9, 6, 7, 2, 0, 5, 1)))
}

// Where the rest is elected, it makes no difference who has the quota: all are elected in one round, and no value passes.
func TestP18_1TheQuotaWhereTheRestIsElected(t *testing.T) {
	check(t, ranks(2, row(9, 0, 1), row(3, 1)), 2, []int{1, 0}, untied(won("9 3 | 0", 0, 1))) // quota 5
	check(t, ranks(2, row(3, 0, 1), row(9, 1)), 2, []int{0, 1}, untied(won("3 9 | 0", 1, 0)))
	check(t, sorted(3, row(7, 0, 1, 2), row(4, 1, 2), row(1, 2)), 3, upTo(3), untied(won("7 4 1 | 0", 0, 1, 2))) // quota 4
	check(t, ranks(1, row(million, 0)), 1, []int{0}, untied(won("1000000 | 0", 0)))
	// After an elimination two have exactly the quota of 3, or one has more.
	check(t, ranks(3, row(2, 0), row(2, 1), row(1, 2, 0), row(1, 2, 1)), 2, []int{1, 0, 2}, outcome(ties(tie(2, 0, 1, 2), tie(1, 0, 1)), out("2 2 2 | 0", 2), won("3 3 0 | 0", 1, 0)))
	check(t, ranks(3, row(2, 0), row(2, 1), row(2, 2, 1)), 2, []int{0, 1, 2}, outcome(ties(tie(2, 0, 1, 2)), out("2 2 2 | 0", 2), won("2 4 0 | 0", 1, 0)))
}

// After an elimination, with or without elections before it, exactly as many hopeful candidates are left as seats; and the order is that of what they have by then.
func TestP18_1TheRestAfterOtherRounds(t *testing.T) {
	check(t, theExample(), 2, upTo(3), untied(won("6 1 3 | 0", 0), out("4 2.999999998 3 | 0.000000002", 1), won("4 0 3 | 3", 2)))
	// Three are elected and one is eliminated: one seat is left for one.
	check(t, sorted(5, row(9, 0, 3), row(7, 1), row(1, 2), row(2, 3), row(3, 4)), 4, upTo(5), untied(
		won("9 7 1 2 3 | 0", 0),
		won("5 7 1 5.999999996 3 | 0.000000004", 1),
		won("5 5 1 5.999999996 3 | 2.000000004", 3),
		out("5 5 1 5 3 | 3", 2),
		won("5 5 0 5 3 | 4", 4)))
	// Nobody is elected before; the ballots of the eliminated one go over to 2, who is ahead then.
	check(t, sorted(4, row(4, 0), row(4, 1), row(4, 2), row(4, 3, 2)), 3, upTo(4), outcome(ties(tie(3, 0, 1, 2, 3), tie(0, 0, 1)), out("4 4 4 4 | 0", 3), won("4 4 8 0 | 0", 2, 0, 1)))
}

func TestP18_1TheRestIsTied(t *testing.T) {
	p := ranks(4, row(2, 0), row(3, 1), row(3, 2), row(3, 3))
	check(t, p, 4, []int{0, 3, 1, 2}, outcome(ties(tie(3, 1, 2, 3), tie(1, 1, 2)), won("2 3 3 3 | 0", 3, 1, 2, 0)))
	check(t, p, 4, []int{2, 1, 0, 3}, outcome(ties(tie(2, 1, 2, 3), tie(1, 1, 3)), won("2 3 3 3 | 0", 2, 1, 3, 0)))
	p = ranks(4, row(2, 0), row(3, 1), row(2, 2), row(3, 3))
	check(t, p, 4, []int{2, 3, 0, 1}, outcome(ties(tie(3, 1, 3), tie(2, 0, 2)), won("2 3 2 3 | 0", 3, 1, 2, 0)))
	for _, lot := range lots(4) {
		want := ties(tie(lot[0], 0, 1, 2, 3), tie(lot[1], slices.Sorted(slices.Values(lot[1:]))...), tie(lot[2], slices.Sorted(slices.Values(lot[2:]))...))
		check(t, ranks(4, row(1, 0), row(1, 1), row(1, 2), row(1, 3)), 4, lot, outcome(want, won("1 1 1 1 | 0", lot...)))
	}
}

// The quota

// With exactly the quota a candidate is elected, and its ballots are worth nothing from then on; with one ballot less it is not elected.
func TestP18_1ExactlyTheQuota(t *testing.T) {
	check(t, ranks(3, row(4, 0, 1), row(3, 1), row(3, 2)), 2, upTo(3), outcome(ties(tie(2, 1, 2)), won("4 3 3 | 0", 0), out("4 3 3 | 0", 2), won("4 3 0 | 3", 1)))
	check(t, ranks(3, row(4, 0, 1), row(4, 1), row(3, 2)), 2, []int{1, 0, 2}, outcome(ties(tie(1, 0, 1)), won("4 4 3 | 0", 1), won("4 4 3 | 0", 0)))
	check(t, ranks(3, row(3, 0, 1), row(3, 1), row(3, 2, 0)), 2, upTo(3), outcome(ties(tie(2, 0, 1, 2)), out("3 3 3 | 0", 2), won("6 3 0 | 0", 0, 1)))
	for q := 2; q <= 40; q++ { // which is the quota of 2q - 2 and 2q - 1 votes for one seat, and of 3q - 2 for two
		some := func(text string) string {
			return strings.NewReplacer("q", fmt.Sprint(q), "r", fmt.Sprint(q-1)).Replace(text)
		}
		check(t, ranks(2, row(q, 0), row(q-1, 1)), 1, []int{1, 0}, untied(won(some("q r | 0"), 0)))
		check(t, ranks(2, row(q-1, 0), row(q-1, 1)), 1, []int{1, 0}, outcome(ties(tie(0, 0, 1)), out(some("r r | 0"), 0), won(some("0 r | r"), 1)))
		check(t, ranks(3, row(q, 0, 1), row(q-1, 1), row(q-1, 2, 0)), 2, upTo(3), outcome(ties(tie(2, 1, 2)), won(some("q r r | 0"), 0), out(some("q r r | 0"), 2), won(some("q r 0 | r"), 1)))
		check(t, ranks(3, row(q, 0, 1), row(q, 1, 0), row(q-1, 2)), 2, []int{1, 2, 0}, outcome(ties(tie(1, 0, 1)), won(some("q q r | 0"), 1), won(some("q q r | 0"), 0)))
	}
	// At the limit, half of all ballots are not the quota.
	check(t, ranks(2, row(500000, 0), row(500000, 1)), 1, upTo(2), outcome(ties(tie(1, 0, 1)), out("500000 500000 | 0", 1), won("500000 0 | 500000", 0)))
	check(t, ranks(2, row(499999, 0), row(500001, 1)), 1, upTo(2), untied(won("499999 500001 | 0", 1)))
}

// A billionth less than the quota is not the quota.
func TestP18_1JustBelowTheQuota(t *testing.T) {
	// Of 9 for 1, 6 stay there: 9 times 0.333333333 come to 2, who has 5.999999997 of 6.
	check(t, ranks(4, row(6, 0), row(9, 1, 2), row(3, 2), row(2, 3)), 3, upTo(4), untied(won("6 9 3 2 | 0", 1), won("6 6 5.999999997 2 | 0.000000003", 0), out("6 6 5.999999997 2 | 0.000000003", 3), won("6 6 5.999999997 0 | 2.000000003", 2)))
	// Of 8 for 1, a quarter passes, which is a whole number of billionths: 2 has the quota.
	check(t, ranks(4, row(6, 0), row(8, 1, 2), row(4, 2), row(2, 3)), 3, []int{0, 2, 1, 3}, outcome(ties(tie(0, 0, 2)), won("6 8 4 2 | 0", 1), won("6 6 6 2 | 0", 0), won("6 6 6 2 | 0", 2)))
}

// With more than the quota, each ballot passes on the same part of its value.
func TestP18_1MoreThanTheQuota(t *testing.T) {
	p := sorted(4, row(6, 0, 1), row(2, 0, 2, 1), row(2, 0), row(1, 1), row(3, 2), row(2, 3)) // of 10 ballots, 4 are beyond the quota of 6
	check(t, p, 2, upTo(4), untied(won("10 1 3 2 | 0", 0), out("6 3.4 3.8 2 | 0.8", 3), out("6 3.4 3.8 0 | 2.8", 1), won("6 0 3.8 0 | 6.2", 2)))
	// One ballot is beyond the quota: each is worth 1/333335, rounded down to 2999 billionths.
	check(t, sorted(3, row(333335, 0, 1), row(333332, 1), row(333333, 2)), 2, upTo(3), untied(won("333335 333332 333333 | 0", 0), out("333334 333332.999671665 333333 | 0.000328335", 1), won("333334 0 333333 | 333333", 2)))
	check(t, sorted(3, row(500002, 0, 1), row(499998, 2)), 1, upTo(3), untied(won("500002 0 499998 | 0", 0)))
}

// Of several with the quota, the one with the most is elected first, in one round; another one in the next, with what it has by then.
func TestP18_1SeveralWithTheQuota(t *testing.T) {
	check(t, ranks(4, row(5, 0, 2), row(7, 1, 2), row(2, 2), row(3, 3)), 3, upTo(4), untied(
		won("5 7 2 3 | 0", 1),
		won("5 5 3.999999995 3 | 0.000000005", 0),
		out("5 5 3.999999995 3 | 0.000000005", 3),
		won("5 5 3.999999995 0 | 3.000000005", 2)))
	// The ballots of 1 pass to 2, who is ahead of 0 then.
	check(t, ranks(4, row(6, 0), row(9, 1, 2), row(4, 2), row(2, 3)), 3, upTo(4), untied(won("6 9 4 2 | 0", 1), won("6 6 6.999999997 2 | 0.000000003", 2), won("6 6 6 2 | 1", 0)))
	// They pass to 0, who has the quota already, as it is hopeful.
	check(t, ranks(3, row(5, 0), row(7, 1, 0, 2), row(1, 2)), 2, upTo(3), untied(won("5 7 1 | 0", 1), won("6.999999995 5 1 | 0.000000005", 0)))
}

// Elimination

func TestP18_1WhoIsEliminated(t *testing.T) {
	lot := []int{2, 0, 3, 1}
	for _, c := range []struct {
		name string
		had  [4]int
		ties []api.Tie
		out  int
	}{
		{"one has the least", [4]int{4, 3, 5, 2}, nil, 3},
		{"the first in the lot has", [4]int{4, 3, 2, 5}, nil, 2},
		{"the last in the lot has", [4]int{4, 2, 3, 5}, nil, 1},
		{"one has none", [4]int{0, 4, 4, 3}, nil, 0},
		{"two have the least", [4]int{2, 3, 2, 4}, ties(tie(0, 0, 2)), 0},
		{"two others", [4]int{3, 2, 3, 2}, ties(tie(1, 1, 3)), 1},
		{"the last two in the lot do not", [4]int{2, 3, 2, 3}, ties(tie(0, 0, 2)), 0},
		{"three have", [4]int{1, 2, 1, 1}, ties(tie(3, 0, 2, 3)), 3},
		{"all have", [4]int{2, 2, 2, 2}, ties(tie(1, 0, 1, 2, 3)), 1},
		{"two have none", [4]int{2, 2, 0, 0}, ties(tie(3, 2, 3)), 3},
		{"two have the most", [4]int{5, 1, 2, 5}, nil, 1},
	} {
		t.Run(c.name, func(t *testing.T) {
			var rows []api.Row
			for x, n := range c.had {
				if n > 0 {
					rows = append(rows, row(n, x))
				}
			}
			o, _ := checkCount(t, ranks(4, rows...), 1, lot)
			decided := slices.DeleteFunc(o.Ties, func(x api.Tie) bool { return x.Chosen != c.out })
			first := api.Outcome{Rounds: o.Rounds[:1], Ties: decided}
			if want := (api.Outcome{Rounds: []api.Round{out(strings.Trim(fmt.Sprint(c.had), "[]")+"|0", c.out)}, Ties: c.ties}); !same(first, want) {
				t.Errorf("%s; want %s", tell(first), tell(want))
			}
		})
	}
}

// The ballots of the eliminated keep their value, and go over to the next hopeful candidate, over those that are elected or eliminated.
func TestP18_1BallotsOfTheEliminated(t *testing.T) {
	check(t, ranks(4, row(4, 0), row(3, 1), row(2, 2, 1), row(1, 3, 2)), 1, upTo(4), outcome(ties(tie(2, 1, 2)), out("4 3 2 1 | 0", 3), out("4 3 3 0 | 0", 2), out("4 5 0 0 | 1", 0), won("0 5 0 0 | 5", 1)))
	check(t, ranks(4, row(4, 0), row(3, 1), row(2, 2, 1), row(1, 3, 2, 1)), 1, upTo(4), outcome(ties(tie(2, 1, 2)), out("4 3 2 1 | 0", 3), out("4 3 3 0 | 0", 2), won("4 6 0 0 | 0", 1)))
	// At a reduced value: 0 passes 0.333333333 of each of 12 ballots to 1, who is eliminated, and they go to 2; and a whole ballot goes to 2 over 0.
	check(t, sorted(5, row(12, 0, 1, 2), row(1, 1, 0, 2), row(5, 2), row(5, 3), row(5, 4)), 3, upTo(5), outcome(ties(tie(4, 3, 4)),
		won("12 1 5 5 5 | 0", 0),
		out("8 4.999999996 5 5 5 | 0.000000004", 1),
		won("8 0 9.999999996 5 5 | 0.000000004", 2),
		out("8 0 8 5 5 | 2", 4),
		won("8 0 8 5 0 | 7", 3)))
}

// Candidates without ballots are eliminated first, one after the other, as the lot has them from its end.
func TestP18_1CandidatesWithoutBallots(t *testing.T) {
	p := ranks(5, row(3, 1, 3), row(3, 3, 1))
	check(t, p, 1, []int{0, 1, 2, 3, 4}, outcome(ties(tie(4, 0, 2, 4), tie(2, 0, 2), tie(3, 1, 3)), out("0 3 0 3 0 | 0", 4), out("0 3 0 3 0 | 0", 2), out("0 3 0 3 0 | 0", 0), out("0 3 0 3 0 | 0", 3), won("0 6 0 0 0 | 0", 1)))
	check(t, p, 3, []int{4, 3, 0, 1, 2}, outcome(ties(tie(3, 1, 3), tie(2, 0, 2, 4), tie(0, 0, 4)), won("0 3 0 3 0 | 0", 3), won("0 3.999999999 0 2 0 | 0.000000001", 1), out("0 2 0 2 0 | 2", 2), out("0 2 0 2 0 | 2", 0), won("0 2 0 2 0 | 2", 4)))
}

// The end

// The count ends with the last seat, however many candidates are neither elected nor eliminated by then.
func TestP18_1NoSeatIsLeft(t *testing.T) {
	check(t, ranks(3, row(6, 0), row(3, 1), row(2, 2)), 1, []int{2, 1, 0}, untied(won("6 3 2 | 0", 0)))
	check(t, ranks(4, row(4, 0), row(5, 1), row(1, 2), row(1, 3)), 2, downFrom(4), untied(won("4 5 1 1 | 0", 1), won("4 4 1 1 | 1", 0)))
	check(t, ranks(5, row(5, 0), row(5, 1), row(5, 2), row(1, 3), row(1, 4)), 3, []int{3, 1, 2, 0, 4}, outcome(ties(tie(1, 0, 1, 2), tie(2, 0, 2)), won("5 5 5 1 1 | 0", 1), won("5 5 5 1 1 | 0", 2), won("5 5 5 1 1 | 0", 0)))
	for seats := 1; seats < 10; seats++ { // as many with ballots as seats, and all have more than the quota
		var rows []api.Row
		var rounds []api.Round
		had := make([]int, 10)
		for c := range seats {
			rows, had[c] = append(rows, row(1000-c, c)), 1000-c
		}
		p := ranks(10, rows...)
		quota, _ := gregory.Quota(p, seats)
		lost := 0
		for c := range seats {
			rounds = append(rounds, won(fmt.Sprint(strings.Trim(fmt.Sprint(had), "[]"), "|", lost), c))
			lost += had[c] - quota
			had[c] = quota
		}
		check(t, p, seats, downFrom(10), untied(rounds...))
	}
}

// Ties

// Several with the most are tied, also with others that have the quota, and the one that comes first in the lot is elected; the others may be tied again.
func TestP18_1TiesForTheMost(t *testing.T) {
	p := ranks(5, row(5, 0), row(5, 1), row(4, 2), row(1, 3), row(1, 4)) // quota 5
	check(t, p, 3, []int{3, 1, 2, 0, 4}, outcome(ties(tie(1, 0, 1), tie(4, 3, 4)), won("5 5 4 1 1 | 0", 1), won("5 5 4 1 1 | 0", 0), out("5 5 4 1 1 | 0", 4), out("5 5 4 1 0 | 1", 3), won("5 5 4 0 0 | 2", 2)))
	p = ranks(5, row(7, 0), row(7, 1), row(6, 2), row(7, 3), row(1, 4)) // quota 6
	for _, lot := range [][]int{{0, 1, 2, 3, 4}, {4, 3, 2, 1, 0}, {2, 1, 0, 4, 3}, {2, 4, 1, 3, 0}} {
		order := slices.DeleteFunc(slices.Clone(lot), func(c int) bool { return c == 2 || c == 4 })
		had := []int{7, 7, 6, 7, 1}
		var rounds []api.Round
		for i, c := range append(order, 2)[:4] {
			rounds = append(rounds, won(fmt.Sprint(strings.Trim(fmt.Sprint(had), "[]"), "|", i), c))
			had[c] = 6
		}
		check(t, p, 4, lot, outcome(ties(tie(order[0], 0, 1, 3), tie(order[1], slices.Sorted(slices.Values(order[1:]))...)), rounds...))
	}
	// One is tied only because of what passed to it: 4 + 2 of 8 for 1.
	check(t, ranks(4, row(6, 0), row(8, 1, 2), row(4, 2), row(2, 3)), 3, []int{3, 2, 1, 0}, outcome(ties(tie(2, 0, 2)), won("6 8 4 2 | 0", 1), won("6 6 6 2 | 0", 2), won("6 6 6 2 | 0", 0)))
}

// Several with the least are tied, and the one that comes last in the lot is eliminated; and parts of votes may be equal.
func TestP18_1TiesForTheLeast(t *testing.T) {
	for _, lot := range lots(4) {
		order := others(lot, 3)
		had := []int{1, 1, 1, 2}
		text := func(lost int) string { return fmt.Sprint(strings.Trim(fmt.Sprint(had), "[]"), "|", lost) }
		rounds := []api.Round{out(text(0), order[2])}
		had[order[2]] = 0
		rounds = append(rounds, out(text(1), order[1]))
		had[order[1]] = 0
		rounds = append(rounds, out(text(2), order[0]))
		had[order[0]] = 0
		rounds = append(rounds, won(text(3), 3))
		check(t, ranks(4, row(1, 0), row(1, 1), row(1, 2), row(2, 3)), 1, lot, outcome(ties(tie(order[2], 0, 1, 2), tie(order[1], slices.Sorted(slices.Values(order[:2]))...)), rounds...))
	}
	p := sorted(4, row(4, 0, 1), row(4, 0, 2), row(1, 1), row(1, 2), row(4, 3)) // 3 of 8 are beyond the quota of 5
	check(t, p, 2, upTo(4), outcome(ties(tie(2, 1, 2)), won("8 1 1 4 | 0", 0), out("5 2.5 2.5 4 | 0", 2), out("5 2.5 0 4 | 2.5", 1), won("5 0 0 4 | 5", 3)))
	check(t, p, 2, []int{3, 2, 1, 0}, outcome(ties(tie(1, 1, 2)), won("8 1 1 4 | 0", 0), out("5 2.5 2.5 4 | 0", 1), out("5 0 2.5 4 | 2.5", 2), won("5 0 0 4 | 5", 3)))
	// Two billionths make a difference, whatever the lot.
	check(t, theExample(), 2, []int{1, 0, 2}, untied(won("6 1 3 | 0", 0), out("4 2.999999998 3 | 0.000000002", 1), won("4 0 3 | 3", 2)))
}

// All ties of a count, in the order in which they occur: for the most, for the least, and where the rest is elected; between them are rounds without a tie.
func TestP18_1TiesOfAWholeCount(t *testing.T) {
	p := ranks(7, row(8, 0), row(8, 1), row(4, 2), row(2, 3), row(2, 4), row(3, 5), row(3, 6)) // quota 6
	rounds := func(first, second, third, fourth int, rest ...int) []api.Round {
		had := []int{8, 8, 4, 2, 2, 3, 3}
		text := func(lost int) string { return fmt.Sprint(strings.Trim(fmt.Sprint(had), "[]"), "|", lost) }
		l := []api.Round{won(text(0), first)}
		had[first] = 6
		l = append(l, won(text(2), second))
		had[second] = 6
		l = append(l, out(text(4), third))
		had[third] = 0
		l = append(l, out(text(6), fourth))
		had[fourth] = 0
		return append(l, won(text(8), rest...))
	}
	check(t, p, 5, []int{5, 6, 4, 3, 2, 1, 0}, outcome(ties(tie(1, 0, 1), tie(3, 3, 4), tie(5, 5, 6)), rounds(1, 0, 3, 4, 2, 5, 6)...))
	check(t, p, 5, []int{0, 1, 2, 3, 4, 6, 5}, outcome(ties(tie(0, 0, 1), tie(4, 3, 4), tie(6, 5, 6)), rounds(0, 1, 4, 3, 2, 6, 5)...))
}

// Values

// A value is rounded down each time that it passes on.
func TestP18_1ValuesPassOnAgainAndAgain(t *testing.T) {
	check(t, sorted(5, row(7, 0, 1, 2, 3, 4), row(3, 3), row(2, 4)), 4, upTo(5), untied( // quota 3
		won("7 0 0 3 2 | 0", 0),
		won("3 3.999999997 0 3 2 | 0.000000003", 1),  // 7 times 4/7 = 0.571428571
		won("3 3 0.999999994 3 2 | 0.000000006", 3),  // 7 times 0.571428571 * 0.999999997 / 3.999999997 = 0.142857142
		out("3 3 0.999999994 3 2 | 0.000000006", 2),  // 3 has no surplus
		won("3 3 0 3 2.999999994 | 0.000000006", 4))) // the same, over 3
	check(t, ranks(6, row(29, 0, 1, 2, 3, 4, 5)), 5, upTo(6), untied( // quota 5
		won("29 0 0 0 0 0 | 0", 0),
		won("5 23.999999974 0 0 0 0 | 0.000000026", 1), // 0.827586206
		won("5 5 18.999999948 0 0 0 | 0.000000052", 2), // 0.655172412
		won("5 5 5 13.999999922 0 0 | 0.000000078", 3), // 0.482758618
		won("5 5 5 5 8.999999896 0 | 0.000000104", 4))) // 0.310344824
}

// The ballots of a candidate pass on alike, wherever they come from, each at a part of its own value.
func TestP18_1BallotsOfSeveralValues(t *testing.T) {
	check(t, sorted(4, row(10, 0, 1, 2), row(4, 1, 3), row(3, 2), row(4, 3)), 3, upTo(4), untied( // quota 6
		won("10 4 3 4 | 0", 0),
		won("6 8 3 4 | 0", 1), // 10 times 0.4, and 4
		out("6 6 4 5 | 0", 2), // 10 times 0.1, and 4 times 0.25
		won("6 6 0 5 | 4", 3)))
	check(t, sorted(5, row(8, 0, 1, 2), row(9, 1, 0, 2), row(1, 2), row(2, 3), row(3, 4)), 3, upTo(5), untied( // quota 6
		won("8 9 1 2 3 | 0", 1),
		won("10.999999997 6 1 2 3 | 0.000000003", 0),
		out("6 6 5.999999991 2 3 | 0.000000009", 3), // 8 times 0.454545454, 9 times 0.151515151, and 1
		out("6 6 5.999999991 0 3 | 2.000000009", 4),
		won("6 6 5.999999991 0 0 | 5.000000009", 2)))
}

// What passes to nobody is lost, and so is what is rounded off; and who is eliminated may have ranked nobody else.
func TestP18_1WhatIsLost(t *testing.T) {
	check(t, sorted(5, row(9, 0), row(4, 1, 0), row(2, 2, 0, 1), row(3, 3), row(4, 4)), 2, upTo(5), untied( // quota 8
		won("9 4 2 3 4 | 0", 0),
		out("8 4 2 3 4 | 1", 2),
		out("8 6 0 3 4 | 1", 3),
		out("8 6 0 0 4 | 4", 4),
		won("8 6 0 0 0 | 8", 1)))
	check(t, sorted(4, row(5, 0), row(5, 0, 1), row(2, 1), row(4, 2), row(3, 3, 0)), 2, upTo(4), untied( // quota 7
		won("10 2 4 3 | 0", 0),
		out("7 3.5 4 3 | 1.5", 3),
		out("7 3.5 4 0 | 4.5", 1),
		won("7 0 4 0 | 8", 2)))
	// A blank ballot is no vote, so that it is not lost.
	check(t, sorted(3, row(999990), row(6, 0, 1), row(1, 1), row(3, 2)), 2, upTo(3), untied(won("6 1 3 | 0", 0), out("4 2.999999998 3 | 0.000000002", 1), won("4 0 3 | 3", 2)))
}

// Edges

// byLot returns the outcome if there are no votes: in the order of the lot, those at its end are eliminated, and the others elected.
func byLot(seats int, lot []int) api.Outcome {
	var rounds []api.Round
	var decisions []api.Tie
	none := strings.Repeat("0 ", len(lot)) + "| 0"
	decide := func(c int, among []int) {
		if len(among) > 1 {
			decisions = append(decisions, tie(c, slices.Sorted(slices.Values(among))...))
		}
	}
	for n := len(lot); n > seats; n-- {
		rounds = append(rounds, out(none, lot[n-1]))
		decide(lot[n-1], lot[:n])
	}
	for i, c := range lot[:seats] {
		decide(c, lot[i:seats])
	}
	return outcome(decisions, append(rounds, won(none, lot[:seats]...))...)
}

// Without votes the quota is 1, which nobody has.
func TestP18_1NoVotes(t *testing.T) {
	for cands := 1; cands <= 10; cands++ {
		for seats := 1; seats <= cands; seats++ {
			for _, p := range []api.Profile{ranks(cands), ranks(cands, row(1)), ranks(cands, row(7)), ranks(cands, row(million))} {
				for _, lot := range [][]int{upTo(cands), downFrom(cands), append(others(upTo(cands), cands/2), cands/2)} {
					check(t, p, seats, lot, byLot(seats, lot))
				}
				if quota, e := gregory.Quota(p, seats); quota != 1 || e != api.OK {
					t.Errorf("the quota of %s is %d, %d", show(p), quota, int(e))
				}
			}
		}
	}
	for _, lot := range lots(4) {
		for seats := 1; seats <= 4; seats++ {
			check(t, ranks(4), seats, lot, byLot(seats, lot))
			check(t, ranks(4, row(6)), seats, lot, byLot(seats, lot))
		}
	}
}

func TestP18_1OneCandidateAlone(t *testing.T) {
	for _, p := range []api.Profile{ranks(1), ranks(1, row(7)), ranks(1, row(7, 0)), ranks(1, row(999999), row(1, 0)), ranks(1, row(million, 0))} {
		check(t, p, 1, []int{0}, untied(won(fmt.Sprint(modelVotes(p), "| 0"), 0)))
		for _, seats := range []int{-1, 0, 2, 10} {
			checkError(t, p, seats, []int{0}, api.ErrArg)
		}
	}
}

func TestP18_1OneVote(t *testing.T) {
	check(t, ranks(3, row(1, 1, 2)), 1, upTo(3), untied(won("0 1 0 | 0", 1)))
	check(t, ranks(3, row(1, 1, 2)), 2, upTo(3), outcome(ties(tie(2, 0, 2)), won("0 1 0 | 0", 1), out("0 1 0 | 0", 2), won("0 1 0 | 0", 0)))
	check(t, ranks(3, row(1, 1, 2)), 3, upTo(3), outcome(ties(tie(0, 0, 2)), won("0 1 0 | 0", 1, 0, 2)))
	o := run(t, ranks(10, row(1, 5, 7, 4)), 9, downFrom(10))
	if !slices.Equal(o.Elected, []int{5, 9, 8, 7, 6, 4, 3, 2, 1}) || len(o.Rounds) != 3 || !slices.Equal(o.Rounds[1].Out, []int{0}) {
		t.Errorf("of one ballot: %s", tell(o))
	}
}

func TestP18_1TenCandidates(t *testing.T) {
	var rows []api.Row
	for c := range 10 { // the ballots of each candidate go to the next one
		rows = append(rows, row(10+c, append(upTo(10)[c:], upTo(c)...)...))
	}
	check(t, ranks(10, rows...), 3, upTo(10), untied( // quota 37
		out("10 11 12 13 14 15 16 17 18 19 | 0", 0),
		out("0 21 12 13 14 15 16 17 18 19 | 0", 2),
		out("0 21 0 25 14 15 16 17 18 19 | 0", 4),
		out("0 21 0 25 0 29 16 17 18 19 | 0", 6),
		out("0 21 0 25 0 29 0 33 18 19 | 0", 8),
		won("0 21 0 25 0 29 0 33 0 37 | 0", 9),
		out("0 21 0 25 0 29 0 33 0 37 | 0", 1),
		won("0 0 0 46 0 29 0 33 0 37 | 0", 3),
		won("0 0 0 37 0 37.999999958 0 33 0 37 | 0.000000042", 5)))
}

// As many ballots, and as many rows, as the limits allow.
func TestP18_1AtTheLimits(t *testing.T) {
	check(t, ranks(2, row(million, 1)), 1, upTo(2), untied(won("0 1000000 | 0", 1)))
	check(t, ranks(4, row(million, 0, 1, 2, 3)), 3, upTo(4), untied(won("1000000 0 0 0 | 0", 0), won("250001 749999 0 0 | 0", 1), won("250001 250001 499998 0 | 0", 2)))
	check(t, sorted(6, row(999997, 0, 1, 2, 3, 4, 5), row(3, 5)), 5, upTo(6), untied( // the greatest losses by rounding
		won("999997 0 0 0 0 3 | 0", 0),
		won("166667 833329.999002503 0 0 0 3 | 0.000997497", 1),
		won("166667 166667 666662.998005006 0 0 3 | 0.001994994", 2),
		won("166667 166667 166667 499995.997007509 0 3 | 0.002992491", 3),
		won("166667 166667 166667 166667 333328.996010012 3 | 0.003989988", 4)))
	for _, p := range []api.Profile{fullProfile(1), unevenProfile()} {
		for seats := 1; seats <= 10; seats++ {
			for _, lot := range [][]int{upTo(10), downFrom(10), {3, 1, 4, 0, 5, 9, 2, 6, 8, 7}} {
				if o, e := checkCount(t, p, seats, lot); e != api.OK {
					t.Errorf("the count of %s: %s, %d", show(p), tell(o), int(e))
				}
			}
		}
	}
}

// Errors

func TestP18_1WrongProfiles(t *testing.T) {
	for want, l := range wrongProfiles() {
		for _, p := range l {
			if e := profile.Check(p); e != want {
				t.Errorf("the error of %s is %d; want %d", show(p), int(e), int(want))
			}
			checkError(t, p, 1, []int{0, 1}, api.ErrBad)
			checkError(t, p, 1, upTo(min(max(p.Cands, 0), 20)), api.ErrBad)
			checkError(t, p, 0, nil, api.ErrBad)
		}
	}
}

func TestP18_1WrongKinds(t *testing.T) {
	for kind := range 256 {
		for _, p := range []api.Profile{of(2, uint8(kind)), of(2, uint8(kind), row(1, 0, 1)), of(1, uint8(kind), row(1, 0))} {
			for seats := range 4 {
				if kind == 1 {
					checkCount(t, p, seats, upTo(p.Cands))
					continue
				}
				checkError(t, p, seats, upTo(p.Cands), api.ErrBad)
			}
		}
	}
	for kind := uint8(2); kind <= 3; kind++ {
		checkError(t, fullProfile(kind), 1, upTo(10), api.ErrBad)
		checkError(t, fullProfile(kind), 10, upTo(10), api.ErrBad)
	}
}

func TestP18_1WrongSeats(t *testing.T) {
	for cands := 1; cands <= 10; cands++ {
		p := ranks(cands, row(2, 0))
		for _, seats := range append(wilds(), cands-1, cands, cands+1, 1+1<<8, 1+1<<16, 1-1<<32, 1+1<<62, -cands) {
			if seats >= 1 && seats <= cands {
				checkCount(t, p, seats, upTo(cands))
				continue
			}
			checkError(t, p, seats, upTo(cands), api.ErrArg)
			checkError(t, ranks(cands), seats, upTo(cands), api.ErrArg)
		}
	}
}

func TestP18_1WrongLots(t *testing.T) {
	for cands := 1; cands <= 10; cands++ {
		full := ranks(cands, row(1, upTo(cands)...))
		if cands == 10 {
			full = fullProfile(1)
		}
		for _, lot := range wrongLots(cands) {
			checkError(t, ranks(cands), 1, lot, api.ErrArg)
			checkError(t, full, 1, lot, api.ErrArg)
			checkError(t, full, cands, lot, api.ErrArg)
			checkError(t, full, cands+1, lot, api.ErrArg)
		}
	}
}

// The model

// counted returns all profiles of these rankings, each of which occurs up to most times.
func counted(cands, most int, rankings [][]int) []api.Profile {
	slices.SortFunc(rankings, slices.Compare)
	all := []api.Profile{ranks(cands)}
	for _, marks := range rankings {
		for _, p := range all {
			for many := 1; many <= most; many++ {
				all = append(all, ranks(cands, slices.Concat(p.Rows, []api.Row{row(many, marks...)})...))
			}
		}
	}
	return all
}

// smallProfiles returns all profiles of few ballots among few candidates.
func smallProfiles() []api.Profile {
	return slices.Concat(
		counted(1, 3, [][]int{{}, {0}}),
		counted(2, 3, [][]int{{}, {0}, {0, 1}, {1}, {1, 0}}),
		counted(3, 2, lots(3)),
		counted(3, 1, [][]int{{}, {0}, {1}, {2}, {0, 1}, {2, 1}, {1, 2, 0}, {2, 0, 1}, {0, 2, 1}}),
		counted(4, 1, [][]int{{0}, {1, 2, 3, 0}, {2, 3, 0, 1}, {3, 0, 1, 2}, {3, 1}, {1, 0, 3}, {2, 1, 3}}),
	)
}

// seen is how often something occurred in counts, by a text of it.
type seen map[string]int

func (s seen) add(p api.Profile, seats int, o api.Outcome) {
	quota, _ := modelQuota(p, seats)
	for i, r := range o.Rounds {
		last := i == len(o.Rounds)-1
		switch {
		case len(r.Out) > 0:
			s["eliminated"]++
		case len(r.Elected) > 1:
			s["rests of several"]++
		case ratOf(r.Had[r.Elected[0]]).Cmp(big.NewRat(int64(quota), 1)) == 0 && !last:
			s["with exactly the quota"]++
		case !last:
			s["with more than the quota"]++
		}
		if len(r.Lost.Den) == 1 && r.Lost.Den[0] > 1 {
			s["parts of votes lost"]++
		}
	}
	for _, x := range o.Ties {
		s[fmt.Sprint("tied among ", len(x.Among))]++
		if slices.Contains(o.Elected, x.Chosen) {
			s["elected by lot"]++
		}
	}
	s[fmt.Sprint(len(o.Rounds), " rounds")]++
	s[fmt.Sprint(seats, " seats")]++
}

func (s seen) check(t *testing.T, least int, kinds ...string) {
	t.Helper()
	for _, kind := range kinds {
		if s[kind] < least {
			t.Errorf("the counts have %s %d times", kind, s[kind])
		}
	}
}

func TestP18_1SmallProfilesHaveTheModelsOutcomes(t *testing.T) {
	random := rand.New(rand.NewSource(1811))
	s := seen{}
	for _, p := range smallProfiles() {
		if e := profile.Check(p); e != api.OK {
			t.Fatal(show(p), int(e))
		}
		all := lots(p.Cands)
		if p.Cands == 4 {
			all = [][]int{random.Perm(4), {3, 2, 1, 0}}
		}
		for seats := 1; seats <= p.Cands; seats++ {
			for _, lot := range all {
				o, _ := checkCount(t, p, seats, lot)
				s.add(p, seats, o)
			}
		}
	}
	s.check(t, 1000, "eliminated", "rests of several", "with exactly the quota", "with more than the quota", "parts of votes lost", "elected by lot", "tied among 2", "tied among 3", "1 rounds", "2 rounds", "3 rounds", "1 seats", "2 seats", "3 seats")
}

func TestP18_1RandomProfilesHaveTheModelsOutcomes(t *testing.T) {
	random := rand.New(rand.NewSource(1812))
	s := seen{}
	for range 12000 {
		p := anyProfile(random)
		seats := 1 + random.Intn(p.Cands)
		o, e := checkCount(t, p, seats, random.Perm(p.Cands))
		if e != api.OK {
			t.Fatal(show(p), int(e))
		}
		s.add(p, seats, o)
	}
	s.check(t, 1000, "eliminated", "rests of several", "with exactly the quota", "with more than the quota", "parts of votes lost", "elected by lot")
	for n := 1; n <= 10; n++ {
		s.check(t, 30, fmt.Sprint(n, " rounds"), fmt.Sprint(n, " seats"))
		if n > 1 {
			s.check(t, 30, fmt.Sprint("tied among ", n))
		}
	}
}

// The outcome

// The form of every outcome, whatever it says: who is elected or eliminated in each round, and what those have in the rounds after.
func TestP18_1TheWholeOutcome(t *testing.T) {
	random := rand.New(rand.NewSource(1813))
	for range 4000 {
		p := anyProfile(random)
		seats := 1 + random.Intn(p.Cands)
		o := run(t, p, seats, random.Perm(p.Cands))
		quota, _ := gregory.Quota(p, seats)
		var elected, gone []int
		for i, r := range o.Rounds {
			last := i == len(o.Rounds)-1
			rest := len(elected)+len(r.Elected) == seats
			if len(r.Had) != p.Cands || len(r.Elected)+len(r.Out) == 0 || len(r.Elected) > 0 && len(r.Out) > 0 || len(r.Out) > 1 || len(r.Elected) > 1 && !last || last != rest {
				t.Fatalf("the count of %s: round %d of %s", show(p), i, tell(o))
			}
			sum := ratOf(r.Lost)
			for c, x := range r.Had {
				n := ratOf(x)
				sum.Add(sum, n)
				if slices.Contains(elected, c) && n.Cmp(big.NewRat(int64(quota), 1)) != 0 || slices.Contains(gone, c) && n.Sign() != 0 {
					t.Fatalf("the count of %s: %d in round %d of %s", show(p), c, i, tell(o))
				}
			}
			if sum.Cmp(big.NewRat(int64(modelVotes(p)), 1)) != 0 {
				t.Fatalf("the count of %s: round %d of %s adds up to %v", show(p), i, tell(o), sum)
			}
			elected, gone = append(elected, r.Elected...), append(gone, r.Out...)
		}
		if !slices.Equal(elected, o.Elected) {
			t.Errorf("the count of %s: %s", show(p), tell(o))
		}
	}
}
