package phragmen_test

import (
	"fmt"
	"math/big"
	"math/rand"
	"slices"
	"testing"

	"suffrage/api"
	"suffrage/profile"
	"suffrage/ratio"
)

// P21.1

func TestP21_1TheExample(t *testing.T) {
	p, lot := theExample(), []int{0, 1, 2}
	first, second := round{"1/5 1/3 1/4", 0}, round{"0 8/15 1/4", 2}
	checkCount(t, p, 1, lot, outcome(0, []round{first}))
	checkCount(t, p, 2, lot, outcome(0, []round{first, second}))
	checkCount(t, p, 3, lot, outcome(0, []round{first, second, {"0 8/15 0", 1}}))
}

// Two parties, some of whose voters also mark somebody of the other one.
func TestP21_1SixSeats(t *testing.T) {
	p := marking(6, row(1034, 0, 1, 2), row(519, 3, 4, 5), row(90, 0, 1, 4), row(47, 0, 3, 4))
	checkCount(t, p, 6, upTo(6), outcome(0, []round{
		{"1/1171 1/1124 1/1034 1/566 1/656 1/519", 0},
		{"0 2295/1316204 2205/1210814 609/331393 327/192044 1/519", 4},
		{"0 195525/107928728 2205/1210814 188563/54348452 0 361757/99670836", 1},
		{"0 0 155050789/55799152376 188563/54348452 0 361757/99670836", 2},
		{"0 0 0 188563/54348452 0 361757/99670836", 3},
		{"0 0 0 0 0 152212649/28206846588", 5},
	}))
}

// Profiles

func TestP21_1NoRows(t *testing.T) {
	for _, rows := range [][]api.Row{nil, {}} {
		checkCount(t, of(3, 2, rows...), 3, []int{1, 2, 0}, outcome(0, []round{{"0 0 0", 1}, {"0 0 0", 2}, {"0 0 0", 0}}, tie(1, 0, 1, 2), tie(2, 0, 2)))
		checkCount(t, of(1, 2, rows...), 1, []int{0}, outcome(0, []round{{"0", 0}}))
	}
}

func TestP21_1BlankBallots(t *testing.T) {
	for _, n := range []int{1, 2, 1000, million} {
		checkCount(t, of(3, 2, row(n)), 2, []int{2, 0, 1}, outcome(n, []round{{"0 0 0", 2}, {"0 0 0", 0}}, tie(2, 0, 1, 2), tie(0, 0, 1)))
		checkCount(t, of(1, 2, row(n)), 1, []int{0}, outcome(n, []round{{"0", 0}}))
	}
	// They change nothing but what is lost.
	p := theExample()
	p.Rows = slices.Insert(p.Rows, 0, row(999991))
	checkCount(t, p, 3, []int{2, 1, 0}, outcome(999991, []round{{"1/5 1/3 1/4", 0}, {"0 8/15 1/4", 2}, {"0 8/15 0", 1}}))
	checkCount(t, of(2, 2, row(7), row(1, 1)), 2, []int{0, 1}, outcome(7, []round{{"0 1", 1}, {"0 0", 0}}))
}

func TestP21_1OneBallot(t *testing.T) {
	checkCount(t, of(3, 2, row(1, 0, 1, 2)), 3, []int{2, 0, 1}, outcome(0, []round{{"1 1 1", 2}, {"2 2 0", 0}, {"0 3 0", 1}}, tie(2, 0, 1, 2), tie(0, 0, 1)))
	checkCount(t, of(3, 2, row(1, 0, 2)), 3, []int{1, 2, 0}, outcome(0, []round{{"1 0 1", 2}, {"2 0 0", 0}, {"0 0 0", 1}}, tie(2, 0, 2)))
	checkCount(t, of(3, 2, row(1, 1)), 3, []int{2, 1, 0}, outcome(0, []round{{"0 1 0", 1}, {"0 0 0", 2}, {"0 0 0", 0}}, tie(2, 0, 2)))
	for cands := 1; cands <= 10; cands++ {
		for _, marks := range sets(min(cands, 5)) {
			for seats := 1; seats <= cands; seats++ {
				checkModelCount(t, of(cands, 2, row(1, marks...)), seats, downFrom(cands))
				checkModelCount(t, of(cands, 2, row(1, marks...)), seats, upTo(cands))
			}
		}
	}
}

func TestP21_1OneCandidate(t *testing.T) {
	for _, n := range []int{1, 2, 3, 255, 256, million - 1, million} {
		checkCount(t, of(1, 2, row(n, 0)), 1, []int{0}, outcome(0, []round{{fmt.Sprintf("1/%d", n), 0}}))
	}
	checkCount(t, of(1, 2, row(5), row(4, 0)), 1, []int{0}, outcome(5, []round{{"1/4", 0}}))
}

func TestP21_1TenCandidates(t *testing.T) {
	var rows []api.Row
	for c := range 10 {
		rows = append(rows, row(10+c, c))
	}
	want := outcome(0, []round{
		{"1/10 1/11 1/12 1/13 1/14 1/15 1/16 1/17 1/18 1/19", 9},
		{"1/10 1/11 1/12 1/13 1/14 1/15 1/16 1/17 1/18 0", 8},
		{"1/10 1/11 1/12 1/13 1/14 1/15 1/16 1/17 0 0", 7},
		{"1/10 1/11 1/12 1/13 1/14 1/15 1/16 0 0 0", 6},
		{"1/10 1/11 1/12 1/13 1/14 1/15 0 0 0 0", 5},
		{"1/10 1/11 1/12 1/13 1/14 0 0 0 0 0", 4},
		{"1/10 1/11 1/12 1/13 0 0 0 0 0 0", 3},
		{"1/10 1/11 1/12 0 0 0 0 0 0 0", 2},
		{"1/10 1/11 0 0 0 0 0 0 0 0", 1},
		{"1/10 0 0 0 0 0 0 0 0 0", 0},
	})
	checkCount(t, of(10, 2, rows...), 10, upTo(10), want)
	checkCount(t, of(10, 2, rows...), 10, downFrom(10), want)
}

// As many ballots, and as many rows, as the limits allow.
func TestP21_1AtTheLimits(t *testing.T) {
	checkCount(t, of(2, 2, row(million, 1)), 2, []int{0, 1}, outcome(0, []round{{"0 1/1000000", 1}, {"0 0", 0}}))
	checkCount(t, of(2, 2, row(million, 0, 1)), 2, []int{1, 0}, outcome(0, []round{{"1/1000000 1/1000000", 1}, {"1/500000 0", 0}}, tie(1, 0, 1)))
	checkCount(t, of(2, 2, row(1, 0), row(999998, 0, 1), row(1, 1)), 2, []int{1, 0}, outcome(0, []round{{"1/999999 1/999999", 1}, {"1999997/999998000001 0", 0}}, tie(1, 0, 1)))
	for _, p := range []api.Profile{fullProfile(2), unevenProfile()} {
		if many, e := profile.Many(p); many != million || e != api.OK || len(p.Rows) != 64 {
			t.Fatal(show(p), many, int(e))
		}
		for seats := 1; seats <= 10; seats++ {
			checkModelCount(t, p, seats, upTo(10))
			checkModelCount(t, p, seats, downFrom(10))
		}
	}
}

// Ten elections with as many ballots as the limits allow. The last costs are computed apart from the program.
func TestP21_1LongNumbers(t *testing.T) {
	p := primeProfile()
	if many, e := profile.Many(p); many != million || e != api.OK {
		t.Fatal(show(p), many, int(e))
	}
	for _, lot := range [][]int{upTo(10), downFrom(10)} {
		o, _ := checkModelCount(t, p, 10, lot)
		if !slices.Equal(o.Elected, upTo(10)) || len(o.Ties) > 0 {
			t.Fatal(tell(o))
		}
		for at, want := range map[int]string{
			0: "1/999983",
			1: "1999945/999962000357",
			2: "2999808003216/999923001838986077",
			7: "7996813529392451376374277041332152470958290/999590070823283451445119986143708257918881270431",
			8: "8995375010226612146195044084879538459430829313949/999473118784997127281300907105329444052704761322359573",
			9: "9993498821473570226948980350013665943758105589607584717/999336190967723582674863368881056013918869540770058409738499",
		} {
			if cost := o.Rounds[at].Had[at]; !sameNumber(cost, number(want)) {
				t.Errorf("the cost of %d is %s; want %s", at, textOf(cost), want)
			}
		}
		if limbs := len(o.Rounds[9].Had[9].Den); limbs != 7 {
			t.Errorf("the last denominator has %d limbs", limbs)
		}
	}
}

// Rounds

func TestP21_1TheLeastCost(t *testing.T) {
	for _, lot := range lots(3) {
		checkCount(t, of(3, 2, row(2, 0), row(3, 1), row(1, 2)), 1, lot, outcome(0, []round{{"1/2 1/3 1", 1}}))
		checkCount(t, of(3, 2, row(2, 0, 1), row(1, 1, 2)), 1, lot, outcome(0, []round{{"1/2 1/3 1", 1}}))
		checkCount(t, of(3, 2, row(1, 0), row(2, 0, 2), row(1, 1, 2), row(1, 2)), 1, lot, outcome(0, []round{{"1/3 1 1/4", 2}}))
	}
}

// The one that comes first in the lot of those with the least cost is elected, and no other one.
func TestP21_1EqualCosts(t *testing.T) {
	p := of(5, 2, row(4, 0), row(9, 1), row(9, 2), row(8, 3), row(9, 4))
	for _, lot := range lots(5) {
		level := slices.DeleteFunc(slices.Clone(lot), func(c int) bool { return c == 0 || c == 3 })
		o, _ := checkModelCount(t, p, 5, lot)
		if !slices.Equal(o.Elected, append(level, 3, 0)) || !sameTies(o.Ties, ties(tie(level[0], 1, 2, 4), tie(level[1], inOrder(level[1:])...))) {
			t.Errorf("lot %v: %s", lot, tell(o))
		}
	}
}

// Costs are equal though supports and loads differ.
func TestP21_1EqualCostsOfOtherSupports(t *testing.T) {
	p := of(3, 2, row(4, 0), row(2, 0, 2), row(3, 1), row(2, 2))
	first, second := "1/6 1/3 1/4", "0 1/3 1/3"
	checkCount(t, p, 3, []int{0, 1, 2}, outcome(0, []round{{first, 0}, {second, 1}, {"0 0 1/3", 2}}, tie(1, 1, 2)))
	checkCount(t, p, 3, []int{2, 1, 0}, outcome(0, []round{{first, 0}, {second, 2}, {"0 1/3 0", 1}}, tie(2, 1, 2)))
	q := of(4, 2, row(4, 0), row(2, 0, 2), row(3, 1), row(1, 2), row(1, 2, 3)) // with one that is tied with nobody
	checkCount(t, q, 3, []int{3, 2, 1, 0}, outcome(0, []round{{"1/6 1/3 1/4 1", 0}, {"0 1/3 1/3 1", 2}, {"0 1/3 0 4/3", 1}}, tie(2, 1, 2)))
}

// Costs that differ by very little. The last two profiles were searched for: as floating-point numbers, the two least costs are equal.
func TestP21_1CostsThatDifferByLittle(t *testing.T) {
	for _, c := range []struct {
		name    string
		p       api.Profile
		elected []int
		loser   int
	}{
		{"a million supporters, or one less", of(2, 2, row(1, 0), row(999999, 0, 1)), []int{0}, 1},
		{"one less than a million supporters, or a million", of(2, 2, row(999999, 0, 1), row(1, 1)), []int{1}, 0},
		{"half a million supporters, or one less", of(2, 2, row(500000, 0), row(499999, 1)), []int{0}, 1},
		{"after a round", of(3, 2, row(666663, 0), row(2, 0, 1), row(333331, 1, 2), row(1, 2)), []int{0, 1}, 2},
		{"after two rounds", of(4, 2, row(266926, 0), row(4771, 0, 1), row(38167, 0, 2), row(11466, 0, 3), row(126042, 1), row(35757, 1, 2), row(127250, 1, 3), row(129726, 2), row(103117, 3)), []int{0, 1, 3}, 2},
		{"after two other rounds", of(4, 2, row(48369, 0), row(4951, 0, 1), row(180700, 0, 2), row(70509, 0, 3), row(151457, 1), row(11030, 1, 2), row(122219, 1, 3), row(45536, 2), row(48647, 3)), []int{0, 1, 2}, 3},
	} {
		t.Run(c.name, func(t *testing.T) {
			lot := append([]int{c.loser}, others(upTo(c.p.Cands), c.loser)...) // which the loser comes first in
			o, _ := checkModelCount(t, c.p, len(c.elected), lot)
			if !slices.Equal(o.Elected, c.elected) || len(o.Ties) > 0 {
				t.Fatal(tell(o))
			}
			had, winner := o.Rounds[len(c.elected)-1].Had, c.elected[len(c.elected)-1]
			least, other := ratOf(had[winner]), ratOf(had[c.loser])
			more := new(big.Rat).Sub(other, least)
			if more.Sign() <= 0 || more.Cmp(big.NewRat(1, million)) > 0 {
				t.Errorf("%s: the difference is %v", tell(o), more)
			}
			x, _ := least.Float64()
			if y, _ := other.Float64(); len(c.elected) == 3 && x != y {
				t.Errorf("%v and %v are not equal", x, y)
			}
		})
	}
}

// Supporters without loads are worth more than as many with some, but a few of them less than many others.
func TestP21_1LoadsCount(t *testing.T) {
	for _, lot := range lots(3) {
		// Once 0 is elected, 1 has more supporters than 2, but with loads.
		checkCount(t, of(3, 2, row(6, 0), row(5, 0, 1), row(4, 2)), 2, lot, outcome(0, []round{{"1/11 1/5 1/4", 0}, {"0 16/55 1/4", 2}}))
		checkCount(t, of(3, 2, row(6, 0), row(5, 0, 1), row(3, 2)), 2, lot, outcome(0, []round{{"1/11 1/5 1/3", 0}, {"0 16/55 1/3", 1}}))
		// Some of its supporters have loads, and others none.
		first := others(lot, 0)[0]
		checkCount(t, of(3, 2, row(6, 0), row(2, 0, 1), row(3, 1), row(4, 2)), 2, lot, outcome(0, []round{{"1/8 1/5 1/4", 0}, {"0 1/4 1/4", first}}, tie(first, 1, 2)))
	}
}

// The load of every supporter becomes the cost, whatever it was before; all other loads stay.
func TestP21_1LoadsBecomeTheCost(t *testing.T) {
	p := of(4, 2, row(3, 0), row(2, 0, 1), row(2, 0, 1, 2), row(1, 1, 2), row(1, 1, 2, 3))
	checkCount(t, p, 4, []int{3, 2, 1, 0}, outcome(0, []round{
		{"1/7 1/6 1/4 1", 0},   // the loads are 1/7, 1/7, 1/7, 0 and 0
		{"0 11/42 9/28 1", 1},  // 1/7, and four times 11/42
		{"0 0 43/84 53/42", 2}, // 1/7, 11/42, and three times 43/84
		{"0 0 0 127/84", 3},
	}))
}

// No candidate that is left has support

func TestP21_1NobodyWithSupport(t *testing.T) {
	p := of(4, 2, row(3), row(2, 1))
	checkCount(t, p, 4, []int{3, 0, 1, 2}, outcome(3, []round{{"0 1/2 0 0", 1}, {"0 0 0 0", 3}, {"0 0 0 0", 0}, {"0 0 0 0", 2}}, tie(3, 0, 2, 3), tie(0, 0, 2)))
	checkCount(t, p, 2, []int{2, 1, 0, 3}, outcome(3, []round{{"0 1/2 0 0", 1}, {"0 0 0 0", 2}}, tie(2, 0, 2, 3)))
	q := of(3, 2, row(5, 0), row(1, 2)) // after two rounds one is left, which is no tie
	checkCount(t, q, 3, []int{1, 0, 2}, outcome(0, []round{{"1/5 0 1", 0}, {"0 0 1", 2}, {"0 0 0", 1}}))
	checkCount(t, of(2, 2, row(1, 0)), 2, []int{1, 0}, outcome(0, []round{{"1 0", 0}, {"0 0", 1}}))
}

// However great the cost, who has support is elected before anybody who has none, and the lot does not matter.
func TestP21_1SupportComesFirst(t *testing.T) {
	random := rand.New(rand.NewSource(2111))
	without, with := 0, 0
	for range 1500 {
		p := anyProfile(random)
		o := count(t, p, p.Cands, random.Perm(p.Cands))
		for at, r := range o.Rounds {
			_, support := supporters(pilesOf(p), o.Elected[at])
			supported := slices.ContainsFunc(o.Elected[at:], func(c int) bool {
				_, n := supporters(pilesOf(p), c)
				return n > 0
			})
			if support == 0 && supported {
				t.Errorf("%s: %s, although somebody has support in round %d", show(p), tell(o), at)
			}
			if support > 0 {
				with++
			} else if without++; slices.ContainsFunc(r.Had, func(x api.Ratio) bool { return len(x.Num) > 0 }) {
				t.Errorf("%s: %s", show(p), tell(o))
			}
		}
	}
	if with < 1000 || without < 500 {
		t.Errorf("%d candidates with support, and %d without it", with, without)
	}
}

// byLot returns the decisions of rounds in which the lot alone decides among these, who come in its order.
func byLot(left []int) []api.Tie {
	var l []api.Tie
	for at := range len(left) - 1 {
		l = append(l, tie(left[at], inOrder(left[at:])...))
	}
	return l
}

func TestP21_1TheLotAlone(t *testing.T) {
	for cands := 1; cands <= 5; cands++ {
		for _, lot := range lots(cands) {
			for _, p := range []api.Profile{of(cands, 2), of(cands, 2, row(2))} {
				if o, _ := checkModelCount(t, p, cands, lot); !slices.Equal(o.Elected, lot) || !sameTies(o.Ties, byLot(lot)) {
					t.Errorf("%s, lot %v: %s", show(p), lot, tell(o))
				}
			}
			for c := range cands {
				p, rest := of(cands, 2, row(2), row(7, c)), others(lot, c)
				if o, _ := checkModelCount(t, p, cands, lot); !slices.Equal(o.Elected, append([]int{c}, rest...)) || !sameTies(o.Ties, byLot(rest)) {
					t.Errorf("%s, lot %v: %s", show(p), lot, tell(o))
				}
			}
		}
	}
}

// The outcome

// Had has a number for each candidate, Lost is the same in every round, nobody is out, and one candidate is elected in each round.
func TestP21_1TheWholeOutcome(t *testing.T) {
	random := rand.New(rand.NewSource(2112))
	lost := 0
	for range 1000 {
		p := anyProfile(random)
		seats, lot := 1+random.Intn(p.Cands), random.Perm(p.Cands)
		o := count(t, p, seats, lot)
		many, _ := profile.Many(p)
		marked, e := profile.Marked(p)
		if e != api.OK {
			t.Fatal(show(p), int(e))
		}
		for at, r := range o.Rounds {
			if len(r.Had) != p.Cands || !sameNumber(r.Lost, ratio.Whole(many-marked)) || !slices.Equal(r.Elected, o.Elected[at:at+1]) || len(r.Out) > 0 {
				t.Errorf("%s: %s", show(p), tell(o))
			}
			for c, cost := range r.Had {
				_, support := supporters(pilesOf(p), c)
				zero := slices.Contains(o.Elected[:at], c) || support == 0
				if zero != sameNumber(cost, number("0")) || ratio.Check(cost) != api.OK || cost.Neg {
					t.Errorf("%s: %s; %d costs %v", show(p), tell(o), c, cost)
				}
			}
		}
		lost += many - marked
		if len(slices.Compact(inOrder(o.Elected))) != seats {
			t.Errorf("%s: %s", show(p), tell(o))
		}
		checkTies(t, p, o, lot)
	}
	if lost < 1000 {
		t.Errorf("%d ballots are lost", lost)
	}
}

// checkTies holds the ties of an outcome against its rounds: each chooses the candidate of a later round than the one before, among several in order, as the one that comes first in the lot.
func checkTies(t *testing.T, p api.Profile, o api.Outcome, lot []int) {
	t.Helper()
	rest := o.Elected
	for _, x := range o.Ties {
		at := slices.Index(rest, x.Chosen)
		if at < 0 || len(x.Among) < 2 || !slices.IsSorted(x.Among) || len(slices.Compact(slices.Clone(x.Among))) < len(x.Among) {
			t.Fatalf("%s, lot %v: %s", show(p), lot, tell(o))
		}
		for _, c := range x.Among {
			if !slices.Contains(rest[at:], c) && slices.Contains(o.Elected, c) || slices.Index(lot, c) < slices.Index(lot, x.Chosen) {
				t.Errorf("%s, lot %v: %s", show(p), lot, tell(o))
			}
		}
		rest = rest[at+1:]
	}
}

// The model

// Every profile with at most two ballots for each set of three candidates or fewer, with every lot.
func TestP21_1SmallProfiles(t *testing.T) {
	outcomes, tied := 0, 0
	for cands := 1; cands <= 3; cands++ {
		all := sets(cands)[1:]
		for _, many := range lists(len(all), 3) {
			p := of(cands, 2)
			for i, n := range many {
				if n > 0 {
					p.Rows = append(p.Rows, row(n, all[i]...))
				}
			}
			for _, lot := range lots(cands) {
				o, _ := checkModelCount(t, p, cands, lot)
				outcomes += len(o.Elected)
				tied += len(o.Ties)
			}
		}
	}
	if outcomes < 35000 || tied < 5000 {
		t.Errorf("%d rounds, %d ties", outcomes, tied)
	}
}

// lists returns all lists of so many numbers less than below.
func lists(length, below int) [][]int {
	if length == 0 {
		return [][]int{nil}
	}
	var all [][]int
	for _, l := range lists(length-1, below) {
		for n := range below {
			all = append(all, append(slices.Clone(l), n))
		}
	}
	return all
}

func TestP21_1RandomProfiles(t *testing.T) {
	random := rand.New(rand.NewSource(2113))
	rounds, tied, lost := 0, 0, 0
	for range 4000 {
		p := anyProfile(random)
		o, e := checkModelCount(t, p, 1+random.Intn(p.Cands), random.Perm(p.Cands))
		if e != api.OK {
			t.Fatal(show(p), int(e))
		}
		rounds += len(o.Rounds)
		tied += len(o.Ties)
		lost += len(o.Rounds[0].Lost.Num)
	}
	if rounds < 10000 || tied < 3000 || lost < 1000 {
		t.Errorf("%d rounds, %d ties, and in %d outcomes something is lost", rounds, tied, lost)
	}
}

// Errors

func TestP21_1Seats(t *testing.T) {
	random := rand.New(rand.NewSource(2114))
	for cands := 1; cands <= 10; cands++ {
		for _, p := range []api.Profile{of(cands, 2), of(cands, 2, row(5)), randomProfile(random, cands), levelProfile(random, cands)} {
			for seats := 1; seats <= cands; seats++ {
				if o, e := checkModelCount(t, p, seats, random.Perm(cands)); e != api.OK || len(o.Elected) != seats {
					t.Errorf("%s, %d seats: %s, %d", show(p), seats, tell(o), int(e))
				}
			}
			for _, seats := range noCandidates(cands) { // those from 1 on are as many as cands seats
				if seats != cands {
					checkNoCount(t, p, seats, random.Perm(cands), api.ErrArg)
				}
			}
			checkNoCount(t, p, 0, random.Perm(cands), api.ErrArg)
		}
	}
}

func TestP21_1WrongProfiles(t *testing.T) {
	for want, l := range wrongProfiles() {
		for _, p := range l {
			if e := profile.Check(p); e != want {
				t.Errorf("the error of %s is %d; want %d", show(p), int(e), int(want))
			}
			checkNoCount(t, p, 1, []int{0, 1}, api.ErrBad)
			checkNoCount(t, p, 1, upTo(min(max(p.Cands, 0), 20)), api.ErrBad)
			checkNoCount(t, p, 0, nil, api.ErrBad)
		}
	}
}

func TestP21_1WrongKinds(t *testing.T) {
	for kind := range 256 {
		for _, p := range []api.Profile{of(2, uint8(kind)), of(2, uint8(kind), row(1, 0, 1)), of(2, uint8(kind), row(3, 1)), of(1, uint8(kind), row(1, 0))} {
			if kind == 2 {
				checkModelCount(t, p, 1, upTo(p.Cands))
				continue
			}
			checkNoCount(t, p, 1, upTo(p.Cands), api.ErrBad)
		}
	}
	for _, kind := range []uint8{1, 3} {
		if e := profile.Check(fullProfile(kind)); e != api.OK {
			t.Errorf("the profile of kind %d has error %d", kind, int(e))
		}
		checkNoCount(t, fullProfile(kind), 1, upTo(10), api.ErrBad)
	}
}

func TestP21_1WrongLots(t *testing.T) {
	for cands := 1; cands <= 10; cands++ {
		p := of(cands, 2, row(3, cands-1))
		if cands == 10 {
			p = fullProfile(2)
		}
		for _, lot := range wrongLots(cands) {
			checkNoCount(t, p, 1, lot, api.ErrArg)
			checkNoCount(t, of(cands, 2), cands, lot, api.ErrArg)
		}
	}
}
