package count_test

import (
	"math/rand"
	"slices"
	"testing"

	"suffrage/api"
	"suffrage/profile"
)

// E1

// ahead returns how many ballots rank x before y.
func ahead(p api.Profile, x, y int) int {
	n := 0
	for _, r := range p.Rows {
		at, behind := slices.Index(r.Marks, x), slices.Index(r.Marks, y)
		if at >= 0 && (behind < 0 || behind > at) {
			n += r.Many
		}
	}
	return n
}

// beatsAll reports whether each of the first candidates is ranked before each of the others by more ballots than behind it.
func beatsAll(p api.Profile, some, others []int) bool {
	for _, x := range some {
		for _, y := range others {
			if ahead(p, x, y) <= ahead(p, y, x) {
				return false
			}
		}
	}
	return true
}

// outside returns the candidates that are not in the set.
func outside(set []int, cands int) []int {
	return slices.DeleteFunc(upTo(cands), func(c int) bool { return slices.Contains(set, c) })
}

// condorcetWinner returns the candidate that beats all others, or false if there is none.
func condorcetWinner(p api.Profile) (int, bool) {
	for c := range p.Cands {
		if beatsAll(p, ints(c), outside(ints(c), p.Cands)) {
			return c, true
		}
	}
	return 0, false
}

// smith returns the smallest set, not empty, of which each beats all outside.
func smith(p api.Profile) []int {
	var smallest []int
	for bits := 1; bits < 1<<p.Cands; bits++ {
		set := slices.DeleteFunc(upTo(p.Cands), func(c int) bool { return bits>>c&1 == 0 })
		if (smallest == nil || len(set) < len(smallest)) && beatsAll(p, set, outside(set, p.Cands)) {
			smallest = set
		}
	}
	return smallest
}

// checkPairwise checks what E1 promises of one profile of rankings, and returns whether it has a Condorcet winner, and whether its Smith set leaves somebody out.
func checkPairwise(t *testing.T, p api.Profile, lot []int) (winner, fewer bool) {
	t.Helper()
	best, winner := condorcetWinner(p)
	set := smith(p)
	for rule := uint8(5); rule <= 8; rule++ {
		elected := run(t, contestOf(rule, p.Cands, 1), p, lot).Elected
		if winner && !slices.Equal(elected, ints(best)) {
			t.Errorf("rule %d: %s, lot %v: %v is elected, and %d beats all others", rule, show(p), lot, elected, best)
		}
		if rule != 6 && (len(elected) != 1 || !slices.Contains(set, elected[0])) {
			t.Errorf("rule %d: %s, lot %v: %v is elected, and the Smith set is %v", rule, show(p), lot, elected, set)
		}
	}
	return winner, len(set) < p.Cands
}

func TestE1AllSmallProfilesOfRankings(t *testing.T) {
	for cands := 1; cands <= 3; cands++ {
		for i, p := range smallProfiles(cands, 1, 4) {
			for j, lot := range lots(cands) {
				if i%3 == j%3 {
					checkPairwise(t, p, lot)
				}
			}
		}
	}
	for i, p := range smallProfiles(4, 1, 2) {
		checkPairwise(t, p, lots(4)[i%24])
	}
}

func TestE1RandomProfilesOfRankings(t *testing.T) {
	random := rand.New(rand.NewSource(2241))
	winners, none, fewer := 0, 0, 0
	for range 4000 {
		cands := 1 + random.Intn(7)
		p := randomProfile(random, cands, 1)
		switch winner, few := checkPairwise(t, p, random.Perm(cands)); {
		case winner:
			winners++
		case few:
			fewer++
		default:
			none++
		}
	}
	if winners < 500 || none < 500 || fewer < 200 {
		t.Errorf("%d profiles have a Condorcet winner, and of the others %d a Smith set of some alone; %d have neither", winners, fewer, none)
	}
}

// A Condorcet winner that few put first, and a cycle of three who beat all others.
func TestE1RankingsByHand(t *testing.T) {
	few := of(3, 1, row(4, 0, 1, 2), row(1, 1), row(4, 2, 1, 0))
	cycle := of(5, 1, row(3, 0, 1, 2, 3, 4), row(3, 1, 2, 0, 4, 3), row(3, 2, 0, 1), row(2, 3, 4, 2, 1, 0), row(2, 4, 3))
	if best, ok := condorcetWinner(few); best != 1 || !ok {
		t.Errorf("the Condorcet winner is %d, %v", best, ok)
	}
	if set := smith(cycle); !slices.Equal(set, upTo(3)) {
		t.Errorf("the Smith set is %v", set)
	}
	for _, lot := range lots(3) {
		checkPairwise(t, few, lot)
	}
	for _, lot := range lots(5) {
		checkPairwise(t, cycle, lot)
	}
}

// checkSum checks what E1 promises of the sum of two profiles by one rule, and reports whether they elect the same candidate without ties.
func checkSum(t *testing.T, rule uint8, p, q api.Profile, lot []int) bool {
	t.Helper()
	c := contestOf(rule, p.Cands, 1)
	one, other := run(t, c, p, lot), run(t, c, q, lot)
	sum, e := profile.Sum(p, q)
	if len(one.Ties)+len(other.Ties) > 0 || one.Elected[0] != other.Elected[0] || e != api.OK {
		return false
	}
	if both := run(t, c, sum, lot); !slices.Equal(both.Elected, one.Elected) || len(both.Ties) > 0 {
		t.Errorf("rule %d, lot %v: %s and %s elect %v; the sum %s", rule, lot, show(p), show(q), one.Elected, tell(both))
	}
	return true
}

func TestE1SumsOfAllSmallProfiles(t *testing.T) {
	for rule := uint8(1); rule <= 4; rule++ {
		agreed := 0
		for cands := 1; cands <= 3; cands++ {
			small := smallProfiles(cands, kindOf(rule), 2)
			for i, p := range small {
				for _, q := range small[i:] {
					if checkSum(t, rule, p, q, downFrom(cands)) {
						agreed++
					}
				}
			}
		}
		if agreed < 100 {
			t.Errorf("rule %d: %d times both elect the same", rule, agreed)
		}
	}
}

func TestE1SumsOfRandomProfiles(t *testing.T) {
	random := rand.New(rand.NewSource(2242))
	for rule := uint8(1); rule <= 4; rule++ {
		agreed := 0
		for range 2000 {
			cands := 1 + random.Intn(5)
			p, q := randomProfile(random, cands, kindOf(rule)), randomProfile(random, cands, kindOf(rule))
			if checkSum(t, rule, p, q, random.Perm(cands)) {
				agreed++
			}
		}
		if agreed < 200 {
			t.Errorf("rule %d: %d times both elect the same", rule, agreed)
		}
	}
}

// By one point each, and together by two.
func TestE1SumsByHand(t *testing.T) {
	for rule, profiles := range map[uint8][2]api.Profile{
		1: {inRows(3, 2, row(9), row(2, 0), row(9, 0, 1), row(3, 1)), inRows(3, 2, row(4, 1), row(3, 2))},
		2: {inRows(3, 2, row(1, 0), row(9, 0, 1), row(2, 1)), inRows(3, 2, row(4, 1), row(3, 2))},
		3: {inRows(3, 3, row(1, 4, 5, 0)), inRows(3, 3, row(2, 0, 5, 4), row(1, 0, 0, 1))},
		4: {inRows(3, 1, row(2, 1, 0, 2), row(1, 0, 1, 2)), inRows(3, 1, row(1, 1, 2))},
	} {
		for _, lot := range lots(3) {
			if !checkSum(t, rule, profiles[0], profiles[1], lot) {
				t.Errorf("rule %d: the profiles do not elect the same", rule)
			}
		}
	}
}
