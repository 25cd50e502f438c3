package condorcet_test

import (
	"math/rand"
	"slices"
	"testing"

	"suffrage/api"
	"suffrage/ballot"
	"suffrage/condorcet"
	"suffrage/pairs"
	"suffrage/profile"
	"suffrage/ratio"
)

// P12.4

// run returns the outcome of a call that is right.
func (m method) run(t *testing.T, p api.Profile, lot []int) api.Outcome {
	t.Helper()
	o, e := m.do(p, 1, lot)
	if e != api.OK || len(o.Rounds) != 1 || len(o.Rounds[0].Had) != p.Cands || len(o.Elected) != 1 {
		t.Fatalf("%s of %s, lot %v: %v, %d", m.name, show(p), lot, o, int(e))
	}
	return o
}

// matrixOf returns the matrix of a valid profile.
func matrixOf(t *testing.T, p api.Profile) api.Pairs {
	t.Helper()
	m, e := pairs.Of(p)
	if e != api.OK {
		t.Fatal(show(p), int(e))
	}
	return m
}

// smithOf returns the Smith set of a matrix that is valid among the candidates.
func smithOf(t *testing.T, m api.Pairs, cands int) []int {
	t.Helper()
	l, e := condorcet.Smith(m, cands)
	if e != api.OK {
		t.Fatal(m, cands, int(e))
	}
	return l
}

// leaning returns a valid profile in which most ballots are close to one ranking, so that there often are a winner and a loser.
func leaning(random *rand.Rand) api.Profile {
	cands := 1 + random.Intn(10)
	p := randomProfile(random, cands, api.KindRank)
	order := random.Perm(cands)
	for range random.Intn(10) {
		marks := slices.Clone(order)
		at, other := random.Intn(cands), random.Intn(cands)
		marks[at], marks[other] = marks[other], marks[at]
		if more, e := profile.Add(p, api.Ballot{Kind: 1, Marks: marks[:1+random.Intn(cands)]}, 1+random.Intn(20)); e == api.OK {
			p = more
		}
	}
	if random.Intn(3) == 0 {
		p = evened(random, p)
	}
	return p
}

// lastFor returns a lot in which a candidate comes last.
func lastFor(random *rand.Rand, cands, c int) []int {
	return append(slices.DeleteFunc(random.Perm(cands), func(o int) bool { return o == c }), c)
}

// firstFor returns a lot in which a candidate comes first.
func firstFor(random *rand.Rand, cands, c int) []int {
	lot := lastFor(random, cands, c)
	return append([]int{c}, lot[:cands-1]...)
}

// E1: both rules elect the Condorcet winner, without a tie and whatever the lot; and it is the only member of the Smith set.
func TestTheCondorcetWinnerIsElected(t *testing.T) {
	random := rand.New(rand.NewSource(191))
	winners := 0
	for range 5000 {
		p := leaning(random)
		m := matrixOf(t, p)
		winner, ok := condorcet.Winner(m, p.Cands)
		smith := smithOf(t, m, p.Cands)
		if ok != (len(smith) == 1) {
			t.Errorf("%s has the winner %d, %v, and the Smith set %v", show(p), winner, ok, smith)
		}
		if !ok {
			continue
		}
		winners++
		if !slices.Equal(smith, []int{winner}) {
			t.Errorf("%s has the winner %d, and the Smith set %v", show(p), winner, smith)
		}
		for _, method := range methods() {
			for _, lot := range [][]int{lastFor(random, p.Cands, winner), firstFor(random, p.Cands, winner)} {
				if o := method.run(t, p, lot); !slices.Equal(o.Elected, []int{winner}) || len(o.Ties) > 0 {
					t.Errorf("%s of %s, lot %v, elects %v, with ties %v; the winner is %d", method.name, show(p), lot, o.Elected, o.Ties, winner)
				}
			}
		}
	}
	if winners < 2000 || winners > 4500 {
		t.Errorf("%d profiles have a winner", winners)
	}
}

// The winner has the best numbers that there are, and with one more ballot for it, it is still the winner.
func TestTheWinnersNumbers(t *testing.T) {
	random := rand.New(rand.NewSource(192))
	for range 1000 {
		p := leaning(random)
		winner, ok := condorcet.Winner(matrixOf(t, p), p.Cands)
		if !ok {
			continue
		}
		lot := random.Perm(p.Cands)
		scores, values := copeland().run(t, p, lot).Rounds[0].Had, minimax().run(t, p, lot).Rounds[0].Had
		if !ratio.Same(scores[winner], ratio.Whole(p.Cands-1)) || !ratio.Same(values[winner], ratio.Whole(0)) {
			t.Errorf("the winner of %s has score %v and value %v", show(p), scores[winner], values[winner])
		}
		if more, e := profile.Add(p, api.Ballot{Kind: 1, Marks: []int{winner}}, 1); e == api.OK {
			if again, ok := condorcet.Winner(matrixOf(t, more), p.Cands); again != winner || !ok {
				t.Errorf("%s has the winner %d, and with a ballot for it more %d, %v", show(p), winner, again, ok)
			}
		}
	}
}

// E1: Copeland elects a member of the Smith set, whatever the lot.
func TestCopelandElectsAMemberOfTheSmithSet(t *testing.T) {
	random := rand.New(rand.NewSource(193))
	outside := 0
	for range 5000 {
		p := leaning(random)
		m := matrixOf(t, p)
		smith := smithOf(t, m, p.Cands)
		if len(smith) < p.Cands {
			outside++
		}
		for c := range p.Cands {
			o := copeland().run(t, p, firstFor(random, p.Cands, c))
			if !slices.Contains(smith, o.Elected[0]) {
				t.Errorf("Copeland of %s elects %d; the Smith set is %v", show(p), o.Elected[0], smith)
			}
			for _, x := range o.Ties {
				for _, c := range x.Among {
					if !slices.Contains(smith, c) {
						t.Errorf("Copeland of %s has a tie among %v; the Smith set is %v", show(p), x.Among, smith)
					}
				}
			}
		}
	}
	if outside < 2000 {
		t.Errorf("%d Smith sets are not of all candidates", outside)
	}
}

// With at least two candidates, the Condorcet loser is not in the Smith set, and Copeland does not elect it; a single candidate is both.
func TestTheCondorcetLoserLoses(t *testing.T) {
	random := rand.New(rand.NewSource(194))
	losers, alone := 0, 0
	for range 5000 {
		p := leaning(random)
		m := matrixOf(t, p)
		loser, ok := condorcet.Loser(m, p.Cands)
		if !ok {
			continue
		}
		smith := smithOf(t, m, p.Cands)
		o := copeland().run(t, p, firstFor(random, p.Cands, loser))
		if p.Cands == 1 {
			alone++
			if !slices.Equal(smith, []int{0}) || !slices.Equal(o.Elected, []int{0}) {
				t.Errorf("of a single candidate, the Smith set is %v, and Copeland elects %v", smith, o.Elected)
			}
			continue
		}
		losers++
		if slices.Contains(smith, loser) || o.Elected[0] == loser {
			t.Errorf("%s has the loser %d and the Smith set %v; Copeland elects %d", show(p), loser, smith, o.Elected[0])
		}
		if winner, ok := condorcet.Winner(m, p.Cands); ok && winner == loser {
			t.Errorf("%s has %d as winner and loser", show(p), winner)
		}
		if !ratio.Same(o.Rounds[0].Had[loser], ratio.Whole(0)) {
			t.Errorf("in %s, the loser has the score %v", show(p), o.Rounds[0].Had[loser])
		}
	}
	if losers < 1000 || alone < 100 {
		t.Errorf("%d profiles have a loser, %d a single candidate", losers, alone)
	}
}

func TestRenamingRenamesTheOutcome(t *testing.T) {
	random := rand.New(rand.NewSource(195))
	ties := 0
	for range 3000 {
		p := leaning(random)
		perm, lot := random.Perm(p.Cands), random.Perm(p.Cands)
		renamed, e := profile.Rename(p, perm)
		if e != api.OK {
			t.Fatal(show(p), int(e))
		}
		var renamedLot []int
		for _, c := range lot {
			renamedLot = append(renamedLot, perm[c])
		}
		for _, m := range methods() {
			o, again := m.run(t, p, lot), m.run(t, renamed, renamedLot)
			if want := modelRename(o, perm); !same(again, want) {
				t.Errorf("%s of %s, lot %v, renamed by %v: %v; want %v", m.name, show(p), lot, perm, again, want)
			}
			ties += len(o.Ties)
		}
	}
	if ties < 500 {
		t.Errorf("%d ties are renamed", ties)
	}
}

// Renaming the candidates of a matrix renames its winner, loser and Smith set.
func TestRenamingAMatrix(t *testing.T) {
	random := rand.New(rand.NewSource(196))
	for range 5000 {
		cands := 1 + random.Intn(10)
		m, perm := randomMatrix(random, cands), random.Perm(cands)
		renamed, e := pairs.Rename(m, perm)
		if e != api.OK {
			t.Fatal(m, int(e))
		}
		var smith []int
		for _, c := range smithOf(t, m, cands) {
			smith = append(smith, perm[c])
		}
		winner, loser := none, none
		if c, ok := condorcet.Winner(m, cands); ok {
			winner = perm[c]
		}
		if c, ok := condorcet.Loser(m, cands); ok {
			loser = perm[c]
		}
		checkAll(t, renamed, cands, winner, loser, slices.Sorted(slices.Values(smith))...)
		// Turned, the winner is the loser.
		checkWinner(t, pairs.Turn(renamed), cands, loser)
		checkLoser(t, pairs.Turn(renamed), cands, winner)
	}
}

// The Copeland scores add up to the number of pairs, and the elected candidate does not hang on ballots that cancel each other out.
func TestScoresAddUp(t *testing.T) {
	random := rand.New(rand.NewSource(197))
	for range 2000 {
		p := leaning(random)
		lot := random.Perm(p.Cands)
		o := copeland().run(t, p, lot)
		sum := ratio.Whole(0)
		for _, n := range o.Rounds[0].Had {
			var e api.Errno
			if sum, e = ratio.Add(sum, n); e != api.OK {
				t.Fatal(int(e))
			}
		}
		if !ratio.Same(sum, ratio.Whole(p.Cands*(p.Cands-1)/2)) {
			t.Errorf("the scores of %s are %v", show(p), o.Rounds[0].Had)
		}
		marks := random.Perm(p.Cands)
		more, e := profile.Add(p, api.Ballot{Kind: 1, Marks: marks}, 3)
		if e == api.OK {
			more, e = profile.Add(more, api.Ballot{Kind: 1, Marks: reversed(marks)}, 3)
		}
		if e != api.OK {
			continue
		}
		for _, m := range methods() {
			if before, after := m.run(t, p, lot), m.run(t, more, lot); !same(before, after) {
				t.Errorf("%s of %s is %v, and with %v and its reverse %v", m.name, show(p), before, marks, after)
			}
		}
	}
}

// The definition of the Smith set, asked of every answer: each member beats everybody outside, and without some of its members it is none such.
func TestTheSmithSetIsDominating(t *testing.T) {
	random := rand.New(rand.NewSource(198))
	for range 2000 {
		cands := 1 + random.Intn(10)
		m := randomMatrix(random, cands)
		smith := smithOf(t, m, cands)
		if len(smith) == 0 || !slices.IsSorted(smith) || ballot.Check(api.Ballot{Kind: api.KindMark, Marks: smith}, cands) != api.OK {
			t.Errorf("the Smith set of %v is %v", m, smith)
		}
		for part := 1; part < 1<<len(smith); part++ {
			var set []int
			for i, c := range smith {
				if part>>i&1 == 1 {
					set = append(set, c)
				}
			}
			if whole := len(set) == len(smith); dominates(m, cands, set) != whole {
				t.Errorf("the Smith set of %v is %v; do all of %v beat all others? %v", m, smith, set, !whole)
			}
		}
	}
}

// dominates reports whether each of the set beats all others.
func dominates(m api.Pairs, cands int, set []int) bool {
	for _, x := range set {
		for y := range cands {
			if !slices.Contains(set, y) && !pairs.Beats(m, x, y) {
				return false
			}
		}
	}
	return true
}
