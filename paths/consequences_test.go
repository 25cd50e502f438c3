package paths_test

import (
	"math/rand"
	"slices"
	"testing"

	"suffrage/api"
	"suffrage/condorcet"
	"suffrage/pairs"
	"suffrage/paths"
	"suffrage/profile"
	"suffrage/ratio"
)

// P13.3

// run returns the outcome of a call that is right.
func run(t *testing.T, p api.Profile, lot []int) api.Outcome {
	t.Helper()
	o, e := paths.Count(p, 1, lot)
	if e != api.OK || len(o.Rounds) != 1 || len(o.Rounds[0].Had) != p.Cands || len(o.Elected) != 1 {
		t.Fatalf("the count of %s, lot %v: %v, %d", show(p), lot, o, int(e))
	}
	return o
}

// lastFor returns a lot in which a candidate comes last.
func lastFor(random *rand.Rand, cands, c int) []int {
	return append(slices.DeleteFunc(random.Perm(cands), func(o int) bool { return o == c }), c)
}

// firstFor returns a lot in which a candidate comes first.
func firstFor(random *rand.Rand, cands, c int) []int {
	lot := lastFor(random, cands, c)
	return append([]int{c}, lot[:cands-1]...)
}

// matrices returns matrices with their numbers of candidates: all with few links, and others at random.
func matrices() map[int][]api.Pairs {
	random := rand.New(rand.NewSource(221))
	all := map[int][]api.Pairs{1: linked(1, 1), 2: linked(2, 1, 2, 3), 3: linked(3, 1, 2, 3), 4: linked(4, 1, 2)}
	for cands := 5; cands <= 10; cands++ {
		for range 500 {
			all[cands] = append(all[cands], randomMatrix(random, cands))
		}
	}
	return all
}

// The strength from x to z is at least the lesser of those from x to y and from y to z.
func TestPathsInARow(t *testing.T) {
	for cands, l := range matrices() {
		for _, m := range l {
			s := strengthsOf(m, cands)
			for x := range cands {
				for _, y := range others(cands, x) {
					for _, z := range others(cands, x) {
						if y != z && s[x][z] < min(s[x][y], s[y][z]) {
							t.Fatalf("the strengths of %v are %v: from %d to %d, by way of %d", m, s, x, z, y)
						}
					}
				}
			}
		}
	}
}

// To have a greater strength to another one than back is transitive, and somebody is not behind any other one.
func TestToBeAheadIsTransitive(t *testing.T) {
	chains := 0
	for cands, l := range matrices() {
		for _, m := range l {
			s := strengthsOf(m, cands)
			for x := range cands {
				for y := range cands {
					for z := range cands {
						if s[x][y] <= s[y][x] || s[y][z] <= s[z][y] {
							continue
						}
						chains++
						if s[x][z] <= s[z][x] {
							t.Fatalf("the strengths of %v are %v: %d is ahead of %d, and that of %d", m, s, x, y, z)
						}
					}
				}
			}
			isAhead := func(c int) bool {
				return !slices.ContainsFunc(upTo(cands), func(o int) bool { return s[c][o] < s[o][c] })
			}
			if !slices.ContainsFunc(upTo(cands), isAhead) {
				t.Fatalf("the strengths of %v are %v: everybody is behind", m, s)
			}
		}
	}
	if chains < 10000 {
		t.Errorf("%d times somebody is ahead of somebody who is ahead", chains)
	}
}

// The strength from one to another is the greatest for which links that are at least so strong lead from the one to the other.
func TestStrengthsAreTheGreatest(t *testing.T) {
	for cands, l := range matrices() {
		for _, m := range l[:min(len(l), 700)] {
			s := strengthsOf(m, cands)
			for x := range cands {
				for y := range cands {
					reached := reachable(m, cands, x, s[x][y])
					further := reachable(m, cands, x, s[x][y]+1)
					if n := paths.Strength(m, x, y); n > s[x][y] || s[x][y] > 0 && !reached[y] || x != y && further[y] || x == y && s[x][y] != 0 {
						t.Fatalf("the strengths of %v are %v: from %d to %d", m, s, x, y)
					}
				}
			}
		}
	}
}

// reachable returns where links that are at least so strong lead from a candidate.
func reachable(m api.Pairs, cands, from, least int) [10]bool {
	var reached [10]bool
	left := []int{from}
	for len(left) > 0 {
		x := left[0]
		left = left[1:]
		for y := range cands {
			if !reached[y] && m[x][y] > m[y][x] && m[x][y] >= least {
				reached[y] = true
				left = append(left, y)
			}
		}
	}
	return reached
}

// Paths lead the other way when all ballots are reversed.
func TestTurnedMatrices(t *testing.T) {
	for cands, l := range matrices() {
		for _, m := range l[:min(len(l), 700)] {
			checkStrengthsAlone(t, pairs.Turn(m), cands, pairs.Turn(strengthsOf(m, cands)))
		}
	}
}

func checkStrengthsAlone(t *testing.T, m api.Pairs, cands int, want api.Pairs) {
	t.Helper()
	if s := strengthsOf(m, cands); s != want {
		t.Errorf("the strengths of %v among %d are %v; want %v", m, cands, s, want)
	}
}

// A sequence with another behind it is as strong as the weaker of both.
func TestSequencesInARow(t *testing.T) {
	random := rand.New(rand.NewSource(222))
	found := 0
	for range 5000 {
		m := randomMatrix(random, 2+random.Intn(9))
		path := randomPath(random, m)
		for at := 1; at < len(path)-1; at++ {
			whole, first, second := paths.Strength(m, path...), paths.Strength(m, path[:at+1]...), paths.Strength(m, path[at:]...)
			if whole != min(first, second) {
				t.Errorf("the strength of %v in %v is %d; of the two parts at %d, %d and %d", path, m, whole, at, first, second)
			}
			if whole > 0 {
				found++
			}
		}
	}
	if found < 1000 {
		t.Errorf("%d are paths", found)
	}
}

// E1: the Condorcet winner is elected, without a tie and whatever the lot.
func TestTheCondorcetWinnerIsElected(t *testing.T) {
	random := rand.New(rand.NewSource(223))
	winners := 0
	for range 4000 {
		p := leaning(random)
		winner, ok := condorcet.Winner(matrixOf(t, p), p.Cands)
		if !ok {
			continue
		}
		winners++
		for _, lot := range [][]int{lastFor(random, p.Cands, winner), firstFor(random, p.Cands, winner)} {
			o := run(t, p, lot)
			if !slices.Equal(o.Elected, []int{winner}) || len(o.Ties) > 0 || !ratio.Same(o.Rounds[0].Had[winner], ratio.Whole(p.Cands-1)) {
				t.Errorf("the count of %s, lot %v: %v; the winner is %d", show(p), lot, o, winner)
			}
		}
	}
	if winners < 1500 || winners > 3800 {
		t.Errorf("%d profiles have a winner", winners)
	}
}

// E1: a member of the Smith set is elected, whatever the lot; and so is each of those that are tied.
func TestAMemberOfTheSmithSetIsElected(t *testing.T) {
	random := rand.New(rand.NewSource(224))
	outside, ties := 0, 0
	for range 3000 {
		p := leaning(random)
		smith, e := condorcet.Smith(matrixOf(t, p), p.Cands)
		if e != api.OK {
			t.Fatal(show(p), int(e))
		}
		if len(smith) > 1 && len(smith) < p.Cands {
			outside++
		}
		for c := range p.Cands {
			o := run(t, p, firstFor(random, p.Cands, c))
			among := slices.Clone(o.Elected)
			for _, x := range o.Ties {
				among = append(among, x.Among...)
				ties++
			}
			if slices.ContainsFunc(among, func(c int) bool { return !slices.Contains(smith, c) }) {
				t.Errorf("the count of %s: %v; the Smith set is %v", show(p), o, smith)
			}
		}
	}
	if outside < 200 || ties < 1000 {
		t.Errorf("%d Smith sets are of some of the candidates; %d ties", outside, ties)
	}
}

// Each candidate that is tied is elected by the lots that have it first among the tied ones, and nothing else changes.
func TestTheLotDecidesTiesAlone(t *testing.T) {
	random := rand.New(rand.NewSource(225))
	ties := 0
	for range 2000 {
		p := evened(random, randomProfile(random, 1+random.Intn(10), api.KindRank))
		first := run(t, p, upTo(p.Cands))
		among := slices.Clone(first.Elected)
		for _, x := range first.Ties {
			among = x.Among
			ties++
		}
		for c := range p.Cands {
			lot := firstFor(random, p.Cands, c)
			o := run(t, p, lot)
			want := lot[slices.IndexFunc(lot, func(c int) bool { return slices.Contains(among, c) })]
			if !slices.Equal(o.Elected, []int{want}) || !slices.EqualFunc(o.Rounds[0].Had, first.Rounds[0].Had, sameNumber) || len(o.Ties) != len(first.Ties) {
				t.Errorf("the count of %s, lot %v: %v; by another lot %v", show(p), lot, o, first)
			}
		}
	}
	if ties < 500 {
		t.Errorf("%d ties", ties)
	}
}

func TestRenamingRenamesTheOutcome(t *testing.T) {
	random := rand.New(rand.NewSource(226))
	ties := 0
	for range 3000 {
		p := leaning(random)
		perm, lot := random.Perm(p.Cands), random.Perm(p.Cands)
		renamed, e := profile.Rename(p, perm)
		if e != api.OK {
			t.Fatal(show(p), int(e))
		}
		var renamedLot []int
		for _, c := range lot {
			renamedLot = append(renamedLot, perm[c])
		}
		o, again := run(t, p, lot), run(t, renamed, renamedLot)
		if want := modelRename(o, perm); !same(again, want) {
			t.Errorf("the count of %s, lot %v, renamed by %v: %v; want %v", show(p), lot, perm, again, want)
		}
		ties += len(o.Ties)
	}
	if ties < 250 {
		t.Errorf("%d ties are renamed", ties)
	}
}

// Renaming the candidates of a matrix renames its strengths, and those of its paths.
func TestRenamingAMatrix(t *testing.T) {
	random := rand.New(rand.NewSource(227))
	for range 3000 {
		cands := 1 + random.Intn(10)
		m, perm := randomMatrix(random, cands), random.Perm(cands)
		renamed, e := pairs.Rename(m, perm)
		if e != api.OK {
			t.Fatal(m, int(e))
		}
		checkStrengthsAlone(t, renamed, cands, modelRenameMatrix(strengthsOf(m, cands), perm))
		path := randomPath(random, m)
		if slices.ContainsFunc(path, func(c int) bool { return c < 0 || c >= cands }) {
			continue
		}
		var called []int
		for _, c := range path {
			called = append(called, perm[c])
		}
		checkStrength(t, renamed, paths.Strength(m, path...), called...)
	}
}

// Strengths and links are the same for as many ballots of a kind twice over, but for their numbers.
func TestTwiceTheBallots(t *testing.T) {
	random := rand.New(rand.NewSource(228))
	for range 1000 {
		p := leaning(random)
		twice, e := profile.Sum(p, p)
		if e != api.OK {
			continue
		}
		lot := random.Perm(p.Cands)
		if o, again := run(t, p, lot), run(t, twice, lot); !same(o, again) {
			t.Errorf("the count of %s, lot %v: %v; of twice as many ballots %v", show(p), lot, o, again)
		}
		s := strengthsOf(matrixOf(t, p), p.Cands)
		sum := s
		for x := range sum {
			for y := range sum {
				sum[x][y] *= 2
			}
		}
		checkStrengthsAlone(t, matrixOf(t, twice), p.Cands, sum)
	}
}
