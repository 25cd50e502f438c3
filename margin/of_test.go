package margin_test

import (
	"math/rand"
	"slices"
	"testing"

	"suffrage/api"
	"suffrage/count"
	"suffrage/margin"
)

// P23.1

// votes returns a profile in which each candidate has so many ballots that mark it alone, and some other ballots.
func votes(others []api.Row, votes ...int) api.Profile {
	p := inRows(len(votes), 2, others...)
	for c, n := range votes {
		if n > 0 {
			p.Rows = append(p.Rows, row(n, c))
		}
	}
	return inRows(p.Cands, 2, p.Rows...)
}

// isExact reports whether the margin by the rule is exact.
func isExact(rule uint8) bool { return rule <= 4 || rule == 14 || rule == 15 }

func TestP23_1TheExamples(t *testing.T) {
	checkOf(t, contestOf(1, 2, 1), votes(nil, 5, 3), ints(0, 1), 2, true)
	checkOf(t, contestOf(1, 2, 1), votes(nil, 5, 3), ints(1, 0), 1, true)
	checkOf(t, contestOf(14, 3, 7), votes(nil, 53, 24, 23), ints(0, 1, 2), 1, true)
}

// Rules 1 to 4

func TestP23_1Plurality(t *testing.T) {
	others := []api.Row{row(9), row(4, 0, 1), row(3, 0, 1, 2)}
	for _, x := range []struct {
		votes []int
		seats int
		lot   []int
		want  int
	}{
		{ints(7, 5, 1), 2, ints(0, 1, 2), 3}, // 1 and 2: 5
		{ints(7, 5, 1), 2, ints(2, 1, 0), 2}, // 4
		{ints(7, 5, 1), 1, ints(0, 1, 2), 2}, // 0 and 1: 3
		{ints(7, 5, 1), 1, ints(2, 1, 0), 1}, // 2
		{ints(1, 7, 5), 2, ints(2, 0, 1), 3},
		{ints(5, 1, 7), 2, ints(1, 0, 2), 2},
		{ints(6, 6, 6), 1, ints(2, 0, 1), 1}, // 2 and 0, or 1: 1
		{ints(6, 6, 6), 2, ints(2, 0, 1), 1},
		{ints(0, 0, 0), 2, ints(2, 0, 1), 1}, // by a ballot that marks neither
		{ints(million-16, 0, 0), 1, ints(0, 2, 1), (million - 16 + 2) / 2},
		{ints(million-16, 0, 0), 1, ints(1, 2, 0), (million - 16) / 2},
		{ints(million-16, 0, 0), 2, ints(0, 2, 1), 1}, // 2 and 1 have none
	} {
		checkOf(t, contestOf(1, 3, x.seats), votes(others, x.votes...), x.lot, x.want, true)
	}
}

func TestP23_1Approval(t *testing.T) {
	p := inRows(3, 2, row(2), row(9, 0, 1), row(5, 0), row(3, 1), row(4, 0, 2), row(1, 2)) // 18, 12 and 5
	for _, x := range []struct {
		seats int
		lot   []int
		want  int
	}{
		{1, ints(0, 1, 2), 4}, // 0 and 1: 7
		{1, ints(2, 1, 0), 3}, // 6
		{2, ints(0, 1, 2), 4}, // 1 and 2: 8
		{2, ints(2, 1, 0), 4}, // 7
	} {
		checkOf(t, contestOf(2, 3, x.seats), p, x.lot, x.want, true)
	}
	checkOf(t, contestOf(2, 2, 1), of(2, 2, row(7, 0, 1)), ints(1, 0), 1, true) // gains of 1
	checkOf(t, contestOf(2, 2, 1), of(2, 2, row(7)), ints(1, 0), 1, true)
	checkOf(t, contestOf(2, 2, 1), of(2, 2, row(6, 1)), ints(0, 1), 3, true)
	checkOf(t, contestOf(2, 2, 1), of(2, 2, row(6, 1)), ints(1, 0), 4, true)
}

func TestP23_1Scores(t *testing.T) {
	far := inRows(3, 3, row(3, 10, 0, 0), row(25, 0, 1, 0))   // 30, 25 and 0: 1 and 2 have 26 and gains of 11, 0 and 2 have 31 and gains of 20
	near := inRows(3, 3, row(3, 10, 10, 0), row(25, 5, 4, 5)) // 155, 130 and 125: 0 and 1 have 26 and gains of 11, 0 and 2 have 31 and gains of 20
	for _, lot := range lots(3) {
		checkOf(t, contestOf(3, 3, 2), far, lot, 2, true)
		checkOf(t, contestOf(3, 3, 1), near, lot, 2, true)
	}
	for _, x := range []struct {
		scores []int
		many   int
		lot    []int
		want   int
	}{
		{ints(10, 0), 20, ints(1, 0), 10}, // 200, and gains of 20
		{ints(10, 0), 20, ints(0, 1), 11}, // 201
		{ints(0, 10), 21, ints(0, 1), 11}, // 210
		{ints(10, 9), 22, ints(1, 0), 2},  // 22, and gains of 11
		{ints(10, 9), 22, ints(0, 1), 3},
		{ints(10, 10), 22, ints(1, 0), 1}, // 1, and gains of 10
		{ints(0, 0), 22, ints(1, 0), 1},
		{ints(10, 0), million, ints(0, 1), million/2 + 1},
	} {
		checkOf(t, contestOf(3, 2, 1), of(2, 3, row(x.many, x.scores...)), x.lot, x.want, true)
	}
}

func TestP23_1Borda(t *testing.T) {
	p := of(3, 1, row(2, 0, 1, 2), row(3, 1, 2, 0)) // 4, 8 and 3
	checkOf(t, contestOf(4, 3, 1), p, ints(0, 1, 2), 1, true)
	checkOf(t, contestOf(4, 3, 1), p, ints(1, 0, 2), 2, true) // 1 and 0: 5, and gains of 4; 1 and 2: 6, and gains of 3
	checkOf(t, contestOf(4, 3, 2), p, ints(0, 1, 2), 1, true)
	for _, x := range []struct {
		rows []api.Row
		lot  []int
		want int
	}{
		{[]api.Row{row(12, 0, 1, 2, 3)}, ints(0, 1, 2, 3), 4}, // 0 and 1: 13, and gains of 4
		{[]api.Row{row(12, 0, 1, 2, 3)}, ints(3, 2, 1, 0), 3},
		{[]api.Row{row(12, 0)}, ints(0, 1, 2, 3), 7}, // 37, and gains of 6
		{[]api.Row{row(12, 0)}, ints(3, 2, 1, 0), 6},
		{[]api.Row{row(12, 0, 1)}, ints(0, 1, 2, 3), 4},
		{[]api.Row{row(12)}, ints(0, 1, 2, 3), 1}, // gains of 3
		{[]api.Row{row(9), row(7, 2, 3)}, ints(2, 3, 0, 1), 2},
	} {
		checkOf(t, contestOf(4, 4, 1), of(4, 1, x.rows...), x.lot, x.want, true)
	}
}

// Each pair of an elected and another candidate is looked at: of five candidates, each pair in turn is the closest one.
func TestP23_1EachPair(t *testing.T) {
	for _, l := range lots(5) {
		had := make([]int, 5)
		w, x := l[0], l[1]
		had[w], had[x], had[l[2]], had[l[3]], had[l[4]] = 20, 10, 31, 30, 5
		for _, lot := range [][]int{upTo(5), downFrom(5)} {
			checkOf(t, contestOf(1, 5, 3), votes(nil, had...), lot, 5+behind(lot, w, x), true) // 10 or 11, and gains of 2
		}
	}
}

// D'Hondt and Sainte-Laguë

func TestP23_1DHondt(t *testing.T) {
	others := []api.Row{row(9), row(4, 0, 1), row(3, 0, 1, 2)}
	for _, x := range []struct {
		votes []int
		seats int
		lot   []int
		want  int
	}{
		{ints(53, 24, 23), 7, ints(0, 1, 2), 1},  // 4, 2 and 1: 1 and 2 have 24 * 2 - 23 * 2
		{ints(53, 34, 3), 7, ints(0, 1, 2), 2},   // 4, 3 and 0: 1 and 0 have 34 * 5 - 53 * 3 = 11, and gains of 8
		{ints(90, 10, 10), 1, ints(0, 1, 2), 41}, // 1, 0 and 0: 81, and gains of 2
		{ints(90, 10, 10), 1, ints(2, 1, 0), 40},
		{ints(90, 10, 10), 9, ints(0, 1, 2), 1},            // 9, 0 and 0: 90 - 90 + 1
		{ints(90, 10, 10), 10, ints(0, 1, 2), 1},           // 9, 1 and 0: 10 - 10 + 1
		{ints(90, 10, 10), 10, ints(2, 1, 0), 1},           // 8, 1 and 1
		{ints(900, 30, 20), 10, ints(0, 1, 2), 55},         // 10, 0 and 0: 900 - 300 + 1, and gains of 11
		{ints(900, 30, 20), 10, ints(1, 0, 2), 55},         // 600, and gains of 11
		{ints(905, 30, 20), 10, ints(0, 1, 2), 56},         // 606
		{ints(905, 30, 20), 10, ints(1, 0, 2), 55},         // 605
		{ints(0, 0, 0), 10, ints(0, 1, 2), 1},              // 10, 0 and 0: 1, and gains of 10
		{ints(600, 300, 0), 10, ints(0, 1, 2), 28},         // 7, 3 and 0: 600 * 4 - 300 * 7 + 1, and gains of 11
		{ints(million-16, 0, 0), 10, ints(0, 1, 2), 90908}, // 999985, and gains of 11
		{ints(million-16, 0, 0), 10, ints(1, 2, 0), 90908}, // 999984
	} {
		checkOf(t, contestOf(14, 3, x.seats), votes(others, x.votes...), x.lot, x.want, true)
	}
}

func TestP23_1Sainte(t *testing.T) {
	others := []api.Row{row(9), row(4, 0, 1), row(3, 0, 1, 2)}
	for _, x := range []struct {
		votes []int
		seats int
		lot   []int
		want  int
	}{
		{ints(530, 240, 230), 7, ints(0, 1, 2), 2}, // 3, 2 and 2: 2 and 0 have 230 * 7 - 530 * 3 = 20, and gains of 10
		{ints(530, 240, 230), 7, ints(2, 1, 0), 3}, // 21
		{ints(90, 10, 10), 1, ints(0, 1, 2), 41},   // 1, 0 and 0: 81, and gains of 2
		{ints(90, 10, 10), 1, ints(2, 1, 0), 40},
		{ints(90, 10, 10), 5, ints(0, 1, 2), 1},   // 5, 0 and 0: 90 - 90 + 1
		{ints(900, 30, 20), 9, ints(0, 1, 2), 22}, // 9, 0 and 0: 900 - 510 + 1, and gains of 18
		{ints(906, 30, 20), 9, ints(1, 2, 0), 22}, // 396
		{ints(906, 30, 20), 9, ints(0, 1, 2), 23}, // 397
		{ints(0, 0, 0), 10, ints(2, 1, 0), 1},
		{ints(600, 300, 0), 10, ints(0, 1, 2), 16}, // 7, 3 and 0: 600 * 7 - 300 * 13 + 1, and gains of 20
		{ints(million-16, 0, 0), 10, ints(0, 1, 2), 50000},
	} {
		checkOf(t, contestOf(15, 3, x.seats), votes(others, x.votes...), x.lot, x.want, true)
	}
}

// A party with all seats, and one with none.
func TestP23_1ListsOfTwoParties(t *testing.T) {
	for _, x := range []struct {
		votes          []int
		seats          int
		lot            []int
		dHondt, sainte int
	}{
		{ints(8, 0), 1, ints(0, 1), 5, 5}, // 9, and gains of 2
		{ints(8, 0), 1, ints(1, 0), 4, 4}, // 8
		{ints(8, 0), 3, ints(0, 1), 3, 2}, // 9, and gains of 4 and 6
		{ints(8, 0), 3, ints(1, 0), 2, 2},
		{ints(0, 8), 3, ints(0, 1), 2, 2},
		{ints(0, 8), 3, ints(1, 0), 3, 2},
		{ints(6, 3), 3, ints(0, 1), 1, 2}, // 2 and 1: 1 and 0 have 3 * 3 - 6, and gains of 4; or 3 * 5 - 6, and gains of 6
	} {
		checkOf(t, contestOf(14, 2, x.seats), votes(nil, x.votes...), x.lot, x.dHondt, true)
		checkOf(t, contestOf(15, 2, x.seats), votes(nil, x.votes...), x.lot, x.sainte, true)
	}
}

// Rules 5 to 8

func TestP23_1Pairwise(t *testing.T) {
	for rule := uint8(5); rule <= 8; rule++ {
		for _, lot := range lots(3) {
			for _, x := range []struct {
				rows []api.Row
				want int
			}{
				{[]api.Row{row(6, 0, 1, 2), row(3, 1, 2, 0), row(2, 2, 1, 0)}, 1}, // 0 beats both by 1
				{[]api.Row{row(6, 0, 1, 2), row(2, 1, 2, 0), row(2, 2, 1, 0)}, 1}, // 2
				{[]api.Row{row(6, 0, 1, 2), row(2, 1, 2, 0), row(1, 2, 1, 0)}, 2}, // 3
				{[]api.Row{row(6, 0, 1, 2), row(2, 1, 2, 0)}, 2},                  // 4
				{[]api.Row{row(7, 0, 1, 2), row(2, 1, 2, 0)}, 3},                  // 5
				{[]api.Row{row(5), row(7, 0)}, 4},
				{[]api.Row{row(5), row(7, 0), row(5, 1)}, 1},                         // 1 by 2, and 2 by 7
				{[]api.Row{row(5), row(7, 0), row(4, 2)}, 2},                         // 1 by 7, and 2 by 3
				{[]api.Row{row(5, 1), row(7, 0), row(11, 2)}, 2},                     // 2 beats 0 by 4, and 1 by 6
				{[]api.Row{row(3, 0, 1, 2), row(2, 1, 2, 0), row(2, 2, 0, 1)}, 1},    // a cycle
				{[]api.Row{row(30, 0, 1, 2), row(20, 1, 2, 0), row(20, 2, 0, 1)}, 1}, // a greater one
				{[]api.Row{row(5, 0), row(5, 1)}, 1},
				{[]api.Row{row(50), row(5, 0), row(5, 1)}, 1},
				{[]api.Row{row(7)}, 1},
				{[]api.Row{row(million-1, 1, 0, 2), row(1, 2)}, 499_999}, // 1 beats 2 by 999998
				{[]api.Row{row(million, 1, 0, 2)}, 500_000},
			} {
				checkOf(t, contestOf(rule, 3, 1), inRows(3, 1, x.rows...), lot, x.want, false)
			}
		}
		for n := 1; n < 10; n++ {
			for _, lot := range lots(2) {
				checkOf(t, contestOf(rule, 2, 1), of(2, 1, row(4), row(20, 0), row(20+n, 1)), lot, (n+1)/2, false)
				checkOf(t, contestOf(rule, 2, 1), of(2, 1, row(4), row(20+n, 0, 1), row(20, 1)), lot, (n+1)/2, false)
			}
		}
	}
}

// Rule 9

func TestP23_1Runoff(t *testing.T) {
	for _, x := range []struct {
		rows []api.Row
		lot  []int
		want int
	}{
		{[]api.Row{row(4, 0, 1), row(3, 1), row(2, 2, 1)}, ints(0, 1, 2), 1},
		{[]api.Row{row(36, 0), row(30, 1), row(20, 2, 0)}, ints(0, 1, 2), 6},               // 1 is ahead of 2 by 10, and before it in the lot
		{[]api.Row{row(36, 0), row(30, 1), row(20, 2, 0)}, ints(2, 1, 0), 5},               // and behind it
		{[]api.Row{row(45, 0), row(30, 1), row(20, 2, 0)}, ints(2, 1, 0), 3},               // 0 has 45 of 95
		{[]api.Row{row(45, 0), row(30, 1), row(21, 2, 0)}, ints(2, 1, 0), 4},               // of 96
		{[]api.Row{row(9), row(45, 0), row(30, 1), row(20, 2, 0)}, ints(2, 1, 0), 3},       // and lost ballots
		{[]api.Row{row(36, 0), row(30, 1), row(4, 2, 0), row(16, 2, 1)}, ints(2, 1, 0), 3}, // 40 and 46 in the last round
		{[]api.Row{row(36, 0), row(30, 1), row(4, 2, 0), row(15, 2, 1)}, ints(2, 1, 0), 3}, // 40 and 45
		{[]api.Row{row(36, 0), row(30, 1), row(4, 2), row(16, 2, 1)}, ints(2, 1, 0), 5},    // 36 and 46, of 82, in the last round, but 5 for 1 and 2 in the first
		{[]api.Row{row(36, 0), row(30, 1), row(8, 2, 1), row(12, 2)}, ints(2, 1, 0), 1},    // 36 and 38, of 74
		{[]api.Row{row(6, 0), row(3, 1)}, ints(0, 1, 2), 2},                                // 6 of 9, at once
		{[]api.Row{row(7, 0), row(3, 1)}, ints(0, 1, 2), 2},                                // 7 of 10
		{[]api.Row{row(8, 0), row(3, 1)}, ints(0, 1, 2), 3},
		{[]api.Row{row(40), row(8, 0), row(3, 1)}, ints(0, 1, 2), 3},
		{[]api.Row{row(8, 0)}, ints(0, 1, 2), 4},
		{[]api.Row{row(20, 0), row(20, 1)}, ints(1, 0, 2), 1}, // until one is left
		{[]api.Row{row(7)}, ints(1, 0, 2), 1},
		{[]api.Row{row(million-1, 2), row(1, 1)}, ints(1, 0, 2), 499_999},
		{[]api.Row{row(million, 2)}, ints(1, 0, 2), 500_000},
	} {
		checkOf(t, contestOf(9, 3, 1), inRows(3, 1, x.rows...), x.lot, x.want, false)
	}
}

// In a round further on, another candidate is close to the one that is out, or one to a majority.
func TestP23_1RunoffOfManyRounds(t *testing.T) {
	for _, x := range []struct {
		rows []api.Row
		lot  []int
		want int
	}{
		{[]api.Row{row(200, 0), row(160, 1), row(100, 2), row(40, 3, 2)}, downFrom(4), 10},        // 1 is ahead of 2 by 20
		{[]api.Row{row(200, 0), row(160, 1), row(100, 2), row(40, 3, 2)}, upTo(4), 11},            // and before it in the lot
		{[]api.Row{row(240, 0), row(160, 1), row(100, 2), row(40, 3)}, upTo(4), 11},               // 0 has 240 of 500
		{[]api.Row{row(77), row(240, 0), row(160, 1), row(100, 2), row(40, 3)}, upTo(4), 11},      // as blank ballots are lost from the start
		{[]api.Row{row(240, 0), row(160, 1), row(100, 2, 1), row(40, 3)}, upTo(4), 10},            // 260 and 240 in the last round
		{[]api.Row{row(240, 0), row(161, 1), row(100, 2, 3, 1), row(40, 3)}, upTo(4), 11},         // 261
		{[]api.Row{row(240, 0), row(160, 1), row(100, 2), row(81, 3, 2)}, downFrom(4), 10},        // 2 is ahead of 3 by 19, in the first one
		{[]api.Row{row(260, 0), row(160, 1), row(100, 2), row(40, 3)}, upTo(4), 1},                // 260 of 520, in the second one
		{[]api.Row{row(260, 0), row(160, 1), row(110, 2), row(40, 3)}, upTo(4), 6},                // of 530
		{[]api.Row{row(260, 0), row(260, 1), row(50, 2, 1), row(10, 3, 2)}, ints(0, 1, 3, 2), 20}, // 2 is ahead of 3 by 40, in the first one
	} {
		checkOf(t, contestOf(9, 4, 1), inRows(4, 1, x.rows...), x.lot, x.want, false)
	}
}

// Decisions of each sort are the closest ones of some runoffs, by themselves.
func TestP23_1EachSortOfDecision(t *testing.T) {
	random := rand.New(rand.NewSource(2311))
	closest, rounds := map[string]int{}, map[int]int{}
	for range 4000 {
		p := spread(random, 9)
		cands := p.Cands
		lot := random.Perm(cands)
		n, _ := checkModelOf(t, contestOf(9, cands, 1), p, lot)
		if _, sorts := modelRunoffBound(p, lot); n > 1 && len(sorts) == 1 {
			closest[sorts[0]]++
		}
		o, _ := count.Run(contestOf(9, cands, 1), p, lot)
		rounds[len(o.Rounds)]++
	}
	for _, sort := range []string{"behind", "before", "majority", "last"} {
		if closest[sort] < 50 {
			t.Errorf("%s is the closest %d times: %v", sort, closest[sort], closest)
		}
	}
	for n := 1; n <= 5; n++ {
		if rounds[n] < 10 {
			t.Errorf("%d runoffs have %d rounds", rounds[n], n)
		}
	}
}

// The other rules

func TestP23_1Others(t *testing.T) {
	for _, rule := range ints(10, 11, 12, 13, 16) {
		kind := kindOf(uint8(rule))
		for cands := 2; cands <= 10; cands++ {
			for _, p := range []api.Profile{of(cands, kind, row(1)), of(cands, kind, row(million, 1)), someBallots(cands, kind)} {
				for _, lot := range [][]int{upTo(cands), downFrom(cands)} {
					checkOf(t, contestOf(uint8(rule), cands, 1), p, lot, 1, false)
				}
			}
		}
	}
}

// Whether the margin is exact

func TestP23_1Exact(t *testing.T) {
	for _, rule := range ruleNumbers() {
		for cands := 2; cands <= 10; cands++ {
			p := someBallots(cands, kindOf(rule))
			n, exact, e := margin.Of(contestOf(rule, cands, 1), p, upTo(cands))
			if exact != slices.Contains([]uint8{1, 2, 3, 4, 14, 15}, rule) || n < 1 || e != api.OK {
				t.Errorf("%s = %d, %v, %d", showOf(contestOf(rule, cands, 1), p, upTo(cands)), n, exact, int(e))
			}
		}
	}
}

// When there is no margin

// isWhole reports whether contests by the rule may have as many seats as candidates, of which all are elected then.
func isWhole(rule uint8, cands int) bool { return rule < 14 && mostSeats(rule, cands) == cands }

func TestP23_1NoBallots(t *testing.T) {
	for _, rule := range ruleNumbers() {
		for cands := 1; cands <= 10; cands++ {
			for seats := 1; seats <= mostSeats(rule, cands); seats++ {
				checkNoOf(t, contestOf(rule, cands, seats), of(cands, kindOf(rule)), downFrom(cands), api.ErrNone)
			}
		}
	}
}

func TestP23_1OneCandidate(t *testing.T) {
	for _, rule := range ruleNumbers() {
		for seats := 1; seats <= mostSeats(rule, 1); seats++ {
			checkNoOf(t, contestOf(rule, 1, seats), someBallots(1, kindOf(rule)), ints(0), api.ErrNone)
			checkNoOf(t, contestOf(rule, 1, seats), of(1, kindOf(rule), row(million, 0)), ints(0), api.ErrNone)
		}
	}
}

func TestP23_1AsManySeatsAsCandidates(t *testing.T) {
	for _, rule := range ruleNumbers() {
		for cands := 2; cands <= 10; cands++ {
			p := someBallots(cands, kindOf(rule))
			if isWhole(rule, cands) {
				checkNoOf(t, contestOf(rule, cands, cands), p, upTo(cands), api.ErrNone)
				if n, _ := checkModelOf(t, contestOf(rule, cands, cands-1), p, upTo(cands)); n < 1 {
					t.Errorf("rule %d has a margin of %d for one seat less than %d", rule, n, cands)
				}
			}
		}
	}
}

// By the list rules there is a margin, as a party may get the seat of another one.
func TestP23_1ListsOfAsManySeatsAsParties(t *testing.T) {
	for _, rule := range []uint8{14, 15, 16} {
		for cands := 2; cands <= 10; cands++ {
			for seats := 1; seats <= 10; seats++ {
				level := make([]int, cands)
				for c := range level {
					level[c] = 20
				}
				for _, p := range []api.Profile{votes(nil, level...), of(cands, 2, row(1)), of(cands, 2, row(1, 1)), someBallots(cands, 2)} {
					n, e := checkModelOf(t, contestOf(rule, cands, seats), p, downFrom(cands))
					if n < 1 || e != api.OK {
						t.Errorf("%s = %d, %d", showOf(contestOf(rule, cands, seats), p, downFrom(cands)), n, int(e))
					}
				}
			}
		}
	}
	checkOf(t, contestOf(14, 2, 2), votes(nil, 20, 20), ints(0, 1), 7, true)  // 20 * 2 - 20, or 21, and gains of 3
	checkOf(t, contestOf(14, 2, 2), votes(nil, 21, 20), ints(0, 1), 7, true)  // 1 and 0 have 19, 0 and 1 have 23
	checkOf(t, contestOf(15, 2, 2), votes(nil, 20, 20), ints(0, 1), 10, true) // 20 * 3 - 20, and gains of 4
	checkOf(t, contestOf(16, 2, 2), votes(nil, 20, 20), ints(0, 1), 1, false)
}

// Blank ballots alone are ballots, and can be changed.
func TestP23_1BlankBallotsAlone(t *testing.T) {
	for _, rule := range ruleNumbers() {
		for cands := 2; cands <= 10; cands++ {
			p := of(cands, kindOf(rule))
			marks := []int(nil)
			if p.Kind == 3 {
				marks = make([]int, cands)
			}
			for _, many := range []int{1, 2, 77, million} {
				p.Rows = []api.Row{row(many, marks...)}
				for seats := 1; seats <= mostSeats(rule, cands); seats++ {
					if c := contestOf(rule, cands, seats); seats < cands || rule >= 14 {
						checkOf(t, c, p, downFrom(cands), 1, isExact(rule))
					} else {
						checkNoOf(t, c, p, downFrom(cands), api.ErrNone)
					}
				}
			}
		}
	}
}
