package margin_test

import (
	"fmt"
	"math/rand"
	"slices"
	"testing"

	"suffrage/api"
	"suffrage/count"
	"suffrage/margin"
	"suffrage/profile"
)

// P23.4

// seatsOf returns the seats of each candidate.
func seatsOf(t *testing.T, c api.Contest, p api.Profile, lot []int) []int {
	t.Helper()
	o, e := count.Run(c, p, lot)
	if e != api.OK {
		t.Fatalf("Run(%s; %s; %v) has error %d", showContest(c), show(p), lot, int(e))
	}
	seats, _ := count.Seats(o, p.Cands)
	return seats
}

// pile is some ballots, each the index of one of a list, in ascending order, and the result of their count.
type pile struct {
	ballots []int
	p       api.Profile
	result  string
}

// piles returns all piles of n ballots.
func piles(marks [][]int, cands int, kind uint8, n int) []pile {
	if n == 0 {
		return []pile{{p: of(cands, kind)}}
	}
	var all []pile
	for _, x := range piles(marks, cands, kind, n-1) {
		least := 0
		if n > 1 {
			least = x.ballots[n-2]
		}
		for i := least; i < len(marks); i++ {
			p, e := profile.Add(x.p, api.Ballot{Kind: kind, Marks: marks[i]}, 1)
			if e != api.OK {
				panic(show(x.p))
			}
			all = append(all, pile{ballots: append(slices.Clone(x.ballots), i), p: p})
		}
	}
	return all
}

// between returns how many ballots of one pile must be changed for it to become another one of as many ballots.
func between(x, y pile) int {
	n, at := len(x.ballots), 0
	for _, b := range x.ballots {
		for at < len(y.ballots) && y.ballots[at] < b {
			at++
		}
		if at < len(y.ballots) && y.ballots[at] == b {
			n--
			at++
		}
	}
	return n
}

// allScores returns all marks of ballots of scores of two candidates.
func allScores() [][]int {
	var all [][]int
	for i := range 121 {
		all = append(all, []int{i / 11, i % 11})
	}
	return all
}

// place is where ballots are changed in all ways: the marks that there may be, and how many ballots there are.
type place struct {
	marks [][]int
	cands int
	many  int
	step  int // only each such pile is the one whose ballots are changed
}

// places returns where the ballots of a kind are changed.
func places(kind uint8) []place {
	var all []place
	add := func(cands, step int, many ...int) {
		for _, n := range many {
			all = append(all, place{ballots(cands, kind), cands, n, step})
		}
	}
	switch kind {
	case 1:
		add(1, 1, 1, 3)
		add(2, 1, 1, 2, 3, 5, 8)
		add(3, 1, 1, 2)
		add(3, 5, 3)
		add(3, 97, 4)
		add(4, 3, 1)
		add(4, 41, 2)
	case 2:
		add(1, 1, 1, 3)
		add(2, 1, 1, 2, 3, 4, 7, 10)
		add(3, 1, 1, 2, 3)
		add(3, 5, 4, 6)
		add(4, 3, 1, 2)
		add(4, 37, 3)
	case 3:
		all = append(all, place{allScores(), 2, 1, 1}, place{allScores(), 2, 2, 101})
		for _, scores := range [][]int{{0, 10}, {0, 3, 10}, {0, 7, 8, 10}} {
			for cands := 1; cands <= 3; cands++ {
				marks := [][]int{nil}
				for range cands {
					marks = longer(marks, scores)
				}
				for n := 1; n <= 3 && len(marks) < 30 || n == 1; n++ {
					all = append(all, place{marks, cands, n, 1 + len(marks)*n*n/20})
				}
			}
		}
	}
	return all
}

// longer returns each list with each of these numbers behind it.
func longer(lists [][]int, numbers []int) [][]int {
	var all [][]int
	for _, l := range lists {
		for _, n := range numbers {
			all = append(all, append(slices.Clone(l), n))
		}
	}
	return all
}

// nearest returns the least number of ballots of x that must be changed for another result, or 0 if no change does that.
func nearest(x pile, all []pile) int {
	least := 0
	for _, y := range all {
		if y.result == x.result {
			continue
		}
		if n := between(x, y); least == 0 || n < least {
			least = n
		}
	}
	return least
}

// All ways of changing a few ballots: the margin is the least number that changes the result, and a bound is no more than that.
func TestP23_4AllChangesOfAFewBallots(t *testing.T) {
	for _, rule := range ruleNumbers() {
		found := map[int]int{}
		kind := kindOf(rule)
		for i, x := range places(kind) {
			all := piles(x.marks, x.cands, kind, x.many)
			seats := []int{1}
			if most := mostSeats(rule, x.cands); most > 1 {
				seats = []int{1, 2, []int{x.cands, 5}[rule/14]}
			}
			for j, n := range slices.Compact(seats) {
				lot := lots(x.cands)[(i+j*3+int(rule))%len(lots(x.cands))]
				c := contestOf(rule, x.cands, n)
				for k := range all {
					all[k].result = fmt.Sprint(seatsOf(t, c, all[k].p, lot))
				}
				for k := (i + j) % x.step; k < len(all); k += x.step {
					least := nearest(all[k], all)
					checkNearest(t, c, all[k].p, lot, least)
					found[least]++
				}
			}
		}
		if found[0] < 5 || found[1] < 100 || found[2] < 20 {
			t.Errorf("rule %d: so many results are changed by so many ballots: %v", rule, found)
		}
	}
}

// checkNearest checks that the answer is right if so many ballots must be changed for another result (0, if no change does that).
func checkNearest(t *testing.T, c api.Contest, p api.Profile, lot []int, least int) {
	t.Helper()
	if least == 0 {
		checkNoOf(t, c, p, lot, api.ErrNone)
		return
	}
	n, exact, e := margin.Of(c, p, lot)
	if wantExact := c.Rule <= 4 || c.Rule == 14 || c.Rule == 15; e != api.OK || exact != wantExact || n < 1 || n > least || exact && n != least {
		t.Errorf("%s = %d, %v, %d; but %d ballots change the result", showOf(c, p, lot), n, exact, int(e), least)
	}
	checkModelOf(t, c, p, lot)
}

// Changes of many ballots

// best returns the marks of a ballot that are the best ones for a candidate.
func best(kind uint8, cands, x int) []int {
	if kind == 3 {
		scores := make([]int, cands)
		scores[x] = 10
		return scores
	}
	return ints(x)
}

// helps returns how much it helps x against w to change a ballot: by a rule without gains, more if w is ahead of x on it, and no more if x is first.
func helps(c api.Contest, p api.Profile, seats, marks []int, w, x int) int {
	switch c.Rule {
	case 1, 2, 3, 4:
		n, _ := modelGain(c.Rule, p.Cands, marks, w, x)
		return n
	case 14, 15:
		n, _ := modelGain(1, p.Cands, marks, w, x)
		if n == 2 {
			return 1 + n*seats[w] // more than that of a ballot for neither
		}
		return n
	}
	n, _ := modelGain(map[uint8]uint8{1: 4, 2: 2}[p.Kind], p.Cands, marks, w, x)
	return n
}

// changed returns the profile after n ballots, or all if there are fewer, have been changed, in favor of x and against w as well as can be.
func changed(c api.Contest, p api.Profile, seats []int, n, w, x int) api.Profile {
	rows := slices.Clone(p.Rows)
	slices.SortStableFunc(rows, func(r, s api.Row) int {
		return helps(c, p, seats, s.Marks, w, x) - helps(c, p, seats, r.Marks, w, x)
	})
	for _, r := range rows {
		many := min(n, r.Many)
		if many == 0 {
			break
		}
		n -= many
		p, _ = profile.Take(p, api.Ballot{Kind: p.Kind, Marks: r.Marks}, many)
		p, _ = profile.Add(p, api.Ballot{Kind: p.Kind, Marks: best(p.Kind, p.Cands, x)}, many)
	}
	return p
}

// differs reports whether a change of n ballots, in favor of some candidate and against some other one, leads to another result.
func differs(t *testing.T, x election, n int) bool {
	t.Helper()
	seats := seatsOf(t, x.c, x.p, x.lot)
	for w := range x.p.Cands {
		for other := range x.p.Cands {
			if w != other && !slices.Equal(seatsOf(t, x.c, changed(x.c, x.p, seats, n, w, other), x.lot), seats) {
				return true
			}
		}
	}
	return false
}

// hasRoom reports whether p has room for another row.
func hasRoom(p api.Profile) bool { return len(p.Rows) < 64 }

func TestP23_4ChangesInFavorOfACandidate(t *testing.T) {
	random := rand.New(rand.NewSource(2341))
	for _, rule := range ruleNumbers() {
		changes, great := 0, 0
		for range 100 {
			x := randomElection(random, rule)
			if random.Intn(3) == 0 {
				x.p = spread(random, rule)
				x.c, x.lot = contestOf(rule, x.p.Cands, 1+random.Intn(mostSeats(rule, x.p.Cands))), random.Perm(x.p.Cands)
			}
			n, exact, e := margin.Of(x.c, x.p, x.lot)
			if e != api.OK || !hasRoom(x.p) {
				continue
			}
			changes++
			if n > 5 {
				great++
			}
			if differs(t, x, n-1) {
				t.Errorf("%s = %d, but fewer ballots change the result", showOf(x.c, x.p, x.lot), n)
			}
			if exact && !differs(t, x, n) {
				t.Errorf("%s = %d, but so many ballots don't change the result", showOf(x.c, x.p, x.lot), n)
			}
		}
		if isBound := !isExact(rule) && rule > 9; changes < 50 || !isBound && great < 15 {
			t.Errorf("rule %d: %d changes, %d of them of many ballots", rule, changes, great)
		}
	}
}

// Fewer ballots that are changed at random leave the result as it is.
func TestP23_4ChangesAtRandom(t *testing.T) {
	random := rand.New(rand.NewSource(2342))
	for _, rule := range ruleNumbers() {
		if !isExact(rule) && rule > 9 {
			continue // as the bound is 1
		}
		changes := 0
		for range 200 {
			p := spread(random, rule)
			x := election{contestOf(rule, p.Cands, 1+random.Intn(mostSeats(rule, p.Cands))), p, random.Perm(p.Cands)}
			n, _, e := margin.Of(x.c, x.p, x.lot)
			if e != api.OK || n < 2 {
				continue
			}
			want := seatsOf(t, x.c, x.p, x.lot)
			for range 5 {
				changes++
				if q := shuffled(random, x.p, n-1); !slices.Equal(seatsOf(t, x.c, q, x.lot), want) {
					t.Errorf("%s = %d; but another result has %s", showOf(x.c, x.p, x.lot), n, show(q))
				}
			}
		}
		if changes < 200 {
			t.Errorf("rule %d: %d changes", rule, changes)
		}
	}
}

// shuffled returns the profile after at most n of its ballots have been changed.
func shuffled(random *rand.Rand, p api.Profile, n int) api.Profile {
	for n > 0 && hasRoom(p) {
		many := 1 + random.Intn(n)
		n -= many
		from := p.Rows[random.Intn(len(p.Rows))]
		many = min(many, from.Many)
		p, _ = profile.Take(p, api.Ballot{Kind: p.Kind, Marks: from.Marks}, many)
		p, _ = profile.Add(p, api.Ballot{Kind: p.Kind, Marks: randomMarks(random, p.Cands, p.Kind)}, many)
	}
	return p
}

// Renaming the candidates, in the profile and in the lot, changes neither the margin nor the bound.
func TestP23_4RenamingTheCandidates(t *testing.T) {
	random := rand.New(rand.NewSource(2343))
	for _, rule := range ruleNumbers() {
		tied := 0
		for i := range 400 {
			x := randomElection(random, rule)
			if i%4 == 0 {
				p := spread(random, rule)
				x = election{contestOf(rule, p.Cands, 1+random.Intn(mostSeats(rule, p.Cands))), p, random.Perm(p.Cands)}
			}
			perm := random.Perm(len(x.lot))
			renamed, _ := profile.Rename(x.p, perm)
			n, exact, e := margin.Of(x.c, x.p, x.lot)
			if m, mExact, mE := margin.Of(x.c, renamed, called(x.lot, perm)); m != n || mExact != exact || mE != e {
				t.Errorf("%s = %d, %v, %d; renamed by %v: %d, %v, %d", showOf(x.c, x.p, x.lot), n, exact, int(e), perm, m, mExact, int(mE))
			}
			o, _ := count.Run(x.c, x.p, x.lot)
			tied += len(o.Ties)
		}
		if tied < 70 {
			t.Errorf("rule %d: %d ties", rule, tied)
		}
	}
}

// All small ones, by each permutation.
func TestP23_4RenamingAFewBallots(t *testing.T) {
	for _, rule := range ruleNumbers() {
		for cands := 2; cands <= 3; cands++ {
			for i, p := range smallProfiles(cands, kindOf(rule), 2) {
				c, lot := contestOf(rule, cands, 1+i%mostSeats(rule, cands)), lots(cands)[i%(cands*(cands-1))]
				n, exact, e := margin.Of(c, p, lot)
				for _, perm := range lots(cands) {
					renamed, _ := profile.Rename(p, perm)
					if m, mExact, mE := margin.Of(c, renamed, called(lot, perm)); m != n || mExact != exact || mE != e {
						t.Errorf("%s = %d, %v, %d; renamed by %v: %d, %v, %d", showOf(c, p, lot), n, exact, int(e), perm, m, mExact, int(mE))
					}
				}
			}
		}
	}
}
