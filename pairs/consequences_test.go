package pairs_test

import (
	"math/rand"
	"slices"
	"testing"

	"suffrage/api"
	"suffrage/ballot"
	"suffrage/pairs"
	"suffrage/profile"
)

// P10.3

// matrixOf returns the matrix of a valid profile.
func matrixOf(t *testing.T, p api.Profile) api.Pairs {
	t.Helper()
	m, e := pairs.Of(p)
	if e != api.OK || !pairs.Right(m, p.Cands) || !pairs.Right(m, api.MaxCands) {
		t.Errorf("the matrix of %s is %v, error %d", show(p), m, int(e))
	}
	return m
}

func TestMatrixOfASum(t *testing.T) {
	random := rand.New(rand.NewSource(131))
	sums := 0
	for range 5000 {
		p := randomProfile(random)
		q := likeProfile(random, p)
		sum, e := profile.Sum(p, q)
		if e != api.OK {
			continue
		}
		sums++
		checkSum(t, matrixOf(t, p), matrixOf(t, q), matrixOf(t, sum), api.OK)
		checkSum(t, matrixOf(t, q), matrixOf(t, p), matrixOf(t, sum), api.OK)
	}
	if sums < 3000 {
		t.Errorf("%d profiles have a sum", sums)
	}
}

// The sum of matrices may be within the limits where that of the profiles is not, since not all ballots prefer one candidate to another.
func TestMatrixOfASumAtTheLimit(t *testing.T) {
	p, q := of(2, 1, row(600000, 0, 1)), of(2, 1, row(400000, 0, 1))
	sum, e := profile.Sum(p, q)
	if e != api.OK {
		t.Fatal(e)
	}
	checkSum(t, matrixOf(t, p), matrixOf(t, q), matrixOf(t, sum), api.OK)
	checkSum(t, matrixOf(t, p), with(matrixOf(t, q), 1, 0, 1), api.Pairs{}, api.ErrMany)
	checkSum(t, matrixOf(t, of(2, 1, row(600000))), matrixOf(t, p), matrixOf(t, p), api.OK)
}

func TestMatrixOfARenamedProfile(t *testing.T) {
	random := rand.New(rand.NewSource(132))
	for range 5000 {
		p := randomProfile(random)
		perm := random.Perm(p.Cands)
		renamed, e := profile.Rename(p, perm)
		if e != api.OK {
			t.Fatal(e)
		}
		checkRename(t, matrixOf(t, p), perm, matrixOf(t, renamed), api.OK)
	}
}

func TestRenamingBackRestores(t *testing.T) {
	random := rand.New(rand.NewSource(133))
	for range 5000 {
		cands := 1 + random.Intn(10)
		m := randomMatrix(random, cands)
		perm := random.Perm(cands + random.Intn(11-cands))
		renamed, e := pairs.Rename(m, perm)
		if e != api.OK || !pairs.Right(renamed, len(perm)) {
			t.Errorf("Rename(%v, %v) = %v, %d", m, perm, renamed, int(e))
		}
		checkRename(t, renamed, modelInverse(perm), m, api.OK)
	}
}

// Renaming twice is renaming once by what the two do together; and wins are renamed like candidates.
func TestRenamingTwiceAndWins(t *testing.T) {
	random := rand.New(rand.NewSource(134))
	for range 3000 {
		cands := 1 + random.Intn(10)
		m := randomMatrix(random, cands)
		first, second, both := random.Perm(cands), random.Perm(cands), make([]int, cands)
		for c := range both {
			both[c] = second[first[c]]
		}
		once, _ := pairs.Rename(m, first)
		twice, e := pairs.Rename(once, second)
		checkRename(t, m, both, twice, e)
		wins, _ := pairs.Wins(m, cands)
		want := make([]int, cands)
		for c, n := range wins {
			want[first[c]] = n
		}
		checkWins(t, once, cands, want, api.OK)
	}
}

// completed returns a profile of rankings of all candidates.
func completed(random *rand.Rand, cands int) api.Profile {
	p := of(cands, 1)
	for range random.Intn(30) {
		p, _ = profile.Add(p, api.Ballot{Kind: 1, Marks: random.Perm(cands)}, 1+random.Intn(30000))
	}
	return p
}

func TestEntriesOfCompleteRankings(t *testing.T) {
	random := rand.New(rand.NewSource(135))
	for range 2000 {
		p := completed(random, 1+random.Intn(10))
		many, _ := profile.Many(p)
		m := matrixOf(t, p)
		for x := range p.Cands {
			for y := range x {
				if m[x][y]+m[y][x] != many {
					t.Errorf("of %d ballots, %d prefer %d to %d, and %d the other way", many, m[x][y], x, y, m[y][x])
				}
			}
		}
	}
	full := of(10, 1, row(400000, upTo(10)...), row(600000, 9, 8, 7, 6, 5, 4, 3, 2, 1, 0))
	m := matrixOf(t, full)
	if want, _ := pairs.Sum(ladder(10, 400000), pairs.Turn(ladder(10, 600000))); m != want {
		t.Errorf("the matrix is %v", m)
	}
}

// Two entries of any profile add up to the number of ballots that tell the two candidates apart.
func TestEntriesOfAnyBallots(t *testing.T) {
	random := rand.New(rand.NewSource(136))
	for range 3000 {
		p := randomProfile(random)
		m := matrixOf(t, p)
		x, y := random.Intn(10), random.Intn(10)
		many := 0
		for _, r := range p.Rows {
			b := api.Ballot{Kind: p.Kind, Marks: r.Marks}
			if max(x, y) < p.Cands && (ballot.Prefers(b, x, y) || ballot.Prefers(b, y, x)) {
				many += r.Many
			}
		}
		if m[x][y]+m[y][x] != many {
			t.Errorf("in %s, %d ballots tell %d and %d apart; want %d", show(p), m[x][y]+m[y][x], x, y, many)
		}
	}
}

func TestKeepingCandidatesKeepsTheirEntries(t *testing.T) {
	random := rand.New(rand.NewSource(137))
	entries := 0
	for range 5000 {
		p := randomProfile(random)
		if p.Kind == 3 {
			continue
		}
		left := make([]bool, random.Intn(12))
		for c := range left {
			left[c] = random.Intn(3) > 0
		}
		kept, e := profile.Keep(p, left)
		if e != api.OK {
			t.Fatal(e)
		}
		before, after := matrixOf(t, p), matrixOf(t, kept)
		for x := range min(10, len(left)) {
			for y := range min(10, len(left)) {
				if !left[x] || !left[y] {
					continue
				}
				entries++
				if before[x][y] != after[x][y] {
					t.Errorf("keeping %v of %s changes [%d][%d] from %d to %d", left, show(p), x, y, before[x][y], after[x][y])
				}
			}
		}
	}
	if entries < 10000 {
		t.Errorf("%d entries are left", entries)
	}
}

// Turning a matrix turns each margin, and those who beat become those who are beaten.
func TestMarginsOfATurnedMatrix(t *testing.T) {
	random := rand.New(rand.NewSource(138))
	for range 2000 {
		m := randomMatrix(random, 10)
		turned := pairs.Turn(m)
		x, y := random.Intn(10), random.Intn(10)
		margin := pairs.Margin(m, x, y)
		checkMargin(t, m, y, x, -margin)
		checkMargin(t, turned, x, y, -margin)
		wins, _ := pairs.Wins(m, 10)
		losses, _ := pairs.Wins(turned, 10)
		for c := range 10 {
			beating := slices.DeleteFunc(upTo(10), func(o int) bool { return !pairs.Beats(m, c, o) })
			beaten := slices.DeleteFunc(upTo(10), func(o int) bool { return !pairs.Beats(m, o, c) })
			if wins[c] != len(beating) || losses[c] != len(beaten) {
				t.Errorf("in %v, %d beats %v and is beaten by %v; wins %v, losses %v", m, c, beating, beaten, wins, losses)
			}
		}
	}
}

func TestSumIsCommutativeAndAssociative(t *testing.T) {
	random := rand.New(rand.NewSource(139))
	seen := map[api.Errno]int{}
	for range 5000 {
		a, b, c := randomMatrix(random, 3), randomMatrix(random, 3), randomMatrix(random, 3)
		left, leftE := pairs.Sum(a, b)
		checkSum(t, b, a, left, leftE)
		if leftE == api.OK {
			left, leftE = pairs.Sum(left, c)
		}
		right, rightE := pairs.Sum(b, c)
		if rightE == api.OK {
			right, rightE = pairs.Sum(a, right)
		}
		if left != right || leftE != rightE {
			t.Errorf("of %v, %v and %v, the sum is %v, %d, or %v, %d", a, b, c, left, int(leftE), right, int(rightE))
		}
		seen[leftE]++
	}
	if seen[api.OK] < 500 || seen[api.ErrMany] < 500 {
		t.Errorf("the sums have the errors %v", seen)
	}
}
