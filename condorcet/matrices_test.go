package condorcet_test

import (
	"fmt"
	"math"
	"math/rand"
	"slices"
	"testing"

	"suffrage/api"
	"suffrage/condorcet"
	"suffrage/pairs"
)

// P12.1

// matrix returns the matrix with these entries in its first rows and columns.
func matrix(rows ...[]int) api.Pairs {
	var m api.Pairs
	for x, r := range rows {
		copy(m[x][:], r)
	}
	return m
}

// with returns m with another entry at [x][y].
func with(m api.Pairs, x, y, entry int) api.Pairs {
	m[x][y] = entry
	return m
}

// every returns a matrix with one entry for all pairs of different candidates.
func every(cands, entry int) api.Pairs {
	var m api.Pairs
	for x := range cands {
		for _, y := range others(cands, x) {
			m[x][y] = entry
		}
	}
	return m
}

// ladder returns the matrix in which each candidate beats all that come later.
func ladder(cands, entry int) api.Pairs {
	var m api.Pairs
	for x := range cands {
		for y := range x {
			m[y][x] = entry
		}
	}
	return m
}

// cycle returns the matrix in which each candidate beats the next one alone, and the last one the first.
func cycle(cands, entry int) api.Pairs {
	var m api.Pairs
	for x := range cands {
		m[x][(x+1)%cands] = entry
	}
	return m
}

// groups returns the matrix of groups of so many candidates. Whoever is in a group beats all in later groups, and those in a group are in a cycle; two in a group are level.
func groups(many ...int) (m api.Pairs, cands int) {
	for _, n := range many {
		for x := range cands + n {
			for y := cands; y < cands+n; y++ {
				if x < cands || n > 1 && (x-cands+1)%n == y-cands {
					m[x][y] = 1 + cands
				}
			}
		}
		cands += n
	}
	return m, cands
}

// none stands for the absence of a candidate.
const none = -1

func checkAlone(t *testing.T, name string, c int, ok bool, want int) {
	t.Helper()
	if want == none && (c != 0 || ok) || want != none && (c != want || !ok) {
		t.Errorf("%s = %d, %v; want %d", name, c, ok, want)
	}
}

func checkWinner(t *testing.T, m api.Pairs, cands, want int) {
	t.Helper()
	c, ok := condorcet.Winner(m, cands)
	checkAlone(t, fmt.Sprint("Winner of ", m, " among ", cands), c, ok, want)
}

func checkLoser(t *testing.T, m api.Pairs, cands, want int) {
	t.Helper()
	c, ok := condorcet.Loser(m, cands)
	checkAlone(t, fmt.Sprint("Loser of ", m, " among ", cands), c, ok, want)
}

func checkSmith(t *testing.T, m api.Pairs, cands int, want []int, wantE api.Errno) {
	t.Helper()
	if l, e := condorcet.Smith(m, cands); !slices.Equal(l, want) || e != wantE {
		t.Errorf("Smith of %v among %d = %v, %d; want %v, %d", m, cands, l, int(e), want, int(wantE))
	}
}

func checkAll(t *testing.T, m api.Pairs, cands, winner, loser int, smith ...int) {
	t.Helper()
	checkWinner(t, m, cands, winner)
	checkLoser(t, m, cands, loser)
	checkSmith(t, m, cands, smith, api.OK)
}

// checkWrong checks the answers for arguments that are not right.
func checkWrong(t *testing.T, m api.Pairs, cands int, want api.Errno) {
	t.Helper()
	checkWinner(t, m, cands, none)
	checkLoser(t, m, cands, none)
	checkSmith(t, m, cands, nil, want)
}

// checkModels checks all three answers against the model's, and returns the Smith set.
func checkModels(t *testing.T, m api.Pairs, cands int) ([]int, api.Errno) {
	t.Helper()
	winner, winnerOK := modelWinner(m, cands)
	loser, loserOK := modelLoser(m, cands)
	smith, e := modelSmith(m, cands)
	if !winnerOK {
		winner = none
	}
	if !loserOK {
		loser = none
	}
	checkWinner(t, m, cands, winner)
	checkLoser(t, m, cands, loser)
	checkSmith(t, m, cands, smith, e)
	return smith, e
}

func TestMatrixOfTheExample(t *testing.T) {
	m, e := pairs.Of(theExample())
	if want := matrix([]int{0, 5, 3}, []int{2, 0, 5}, []int{4, 2, 0}); m != want || e != api.OK {
		t.Fatalf("the matrix is %v, %d", m, int(e))
	}
	checkAll(t, m, 3, none, none, 0, 1, 2)
}

func TestThreeCandidates(t *testing.T) {
	for _, c := range []struct {
		name          string
		m             api.Pairs
		winner, loser int
		smith         []int
	}{
		{"a ladder", ladder(3, 1), 0, 2, []int{0}},
		{"a ladder upside down", pairs.Turn(ladder(3, 1)), 2, 0, []int{2}},
		{"a winner, and no loser", matrix([]int{0, 4, 4}, []int{3, 0, 1}, []int{3, 1, 0}), 0, none, []int{0}},
		{"another winner, and no loser", matrix(nil, []int{1, 0, 1}), 1, none, []int{1}},
		{"the last one wins, and there is no loser", matrix(nil, nil, []int{1, 1}), 2, none, []int{2}},
		{"a loser, and no winner", matrix([]int{0, 2, 2}, []int{2, 0, 5}, []int{1, 4, 0}), none, 2, []int{0, 1}},
		{"two level with ballots, all others without", matrix([]int{0, 0, 7}, nil, []int{7, 0, 0}), none, none, []int{0, 1, 2}},
		{"the first one loses, and there is no winner", matrix(nil, []int{2, 0, 3}, []int{2, 3, 0}), none, 0, []int{1, 2}},
		{"the middle one loses, and there is no winner", matrix([]int{0, 6, 3}, []int{5}, []int{3, 1}), none, 1, []int{0, 2}},
		{"a cycle", cycle(3, 1), none, none, []int{0, 1, 2}},
		{"a cycle the other way", pairs.Turn(cycle(3, 1)), none, none, []int{0, 1, 2}},
		{"one link, all others level", matrix([]int{0, 1}), none, none, []int{0, 1, 2}},
		{"two links in a row, the ends level", matrix([]int{0, 1}, []int{0, 0, 1}), none, none, []int{0, 1, 2}},
		{"all level without ballots", api.Pairs{}, none, none, []int{0, 1, 2}},
		{"all level with ballots", every(3, 8), none, none, []int{0, 1, 2}},
	} {
		t.Run(c.name, func(t *testing.T) {
			checkAll(t, c.m, 3, c.winner, c.loser, c.smith...)
			checkModels(t, c.m, 3)
		})
	}
}

// A single candidate is the winner, the loser, and the whole Smith set.
func TestOneCandidate(t *testing.T) {
	checkAll(t, api.Pairs{}, 1, 0, 0, 0)
	for x := range 10 {
		for y := range 10 {
			checkWrong(t, with(api.Pairs{}, x, y, 1), 1, api.ErrBad)
		}
	}
}

func TestTwoCandidates(t *testing.T) {
	for _, c := range []struct{ more, less int }{{1, 0}, {2, 1}, {9, 0}, {500000, 499999}, {500001, 499999}, {999999, 1}, {1000000, 0}} {
		checkAll(t, matrix([]int{0, c.more}, []int{c.less}), 2, 0, 1, 0)
		checkAll(t, matrix([]int{0, c.less}, []int{c.more}), 2, 1, 0, 1)
	}
	for _, n := range []int{0, 1, 7, 499999, 500000} {
		checkAll(t, every(2, n), 2, none, none, 0, 1)
	}
}

func TestLadders(t *testing.T) {
	for cands := 2; cands <= 10; cands++ {
		for _, n := range []int{1, 5, 1000000} {
			checkAll(t, ladder(cands, n), cands, 0, cands-1, 0)
			checkAll(t, pairs.Turn(ladder(cands, n)), cands, cands-1, 0, cands-1)
		}
		if cands == 2 {
			continue
		}
		// Two are level: the first ones, the last ones, the ends.
		checkAll(t, with(ladder(cands, 2), 0, 1, 0), cands, none, cands-1, 0, 1)
		checkAll(t, with(ladder(cands, 2), cands-2, cands-1, 0), cands, 0, none, 0)
		checkAll(t, with(ladder(cands, 2), 0, cands-1, 0), cands, none, none, upTo(cands)...)
	}
}

func TestAllLevel(t *testing.T) {
	for cands := 2; cands <= 10; cands++ {
		for _, n := range []int{0, 1, 250000, 500000} {
			checkAll(t, every(cands, n), cands, none, none, upTo(cands)...)
		}
		// One of them beats, or loses to, all others, or all but one.
		for c := range cands {
			m := every(cands, 3)
			for _, o := range others(cands, c) {
				m[c][o] = 4
			}
			winner, loser, rest := c, none, []int{c}
			left := none
			if cands == 2 {
				loser, left = 1-c, 1-c
			}
			checkAll(t, m, cands, winner, loser, rest...)
			checkAll(t, pairs.Turn(m), cands, left, c, others(cands, c)...)
			for _, o := range others(cands, c) {
				checkAll(t, with(m, c, o, 3), cands, none, none, upTo(cands)...)
			}
		}
	}
}

// Cycles of all candidates, in which each beats the next one, or as many of those that come next as it can.
func TestCycles(t *testing.T) {
	for cands := 3; cands <= 10; cands++ {
		checkAll(t, cycle(cands, 1), cands, none, none, upTo(cands)...)
		var m api.Pairs
		for x := range cands {
			for step := 1; step <= (cands-1)/2; step++ {
				m[x][(x+step)%cands] = 3
			}
		}
		checkAll(t, m, cands, none, none, upTo(cands)...)
		checkAll(t, pairs.Turn(m), cands, none, none, upTo(cands)...)
		// A ladder whose last candidate beats the first one is a cycle of all.
		checkAll(t, with(with(ladder(cands, 1), 0, cands-1, 0), cands-1, 0, 1), cands, none, none, upTo(cands)...)
	}
}

// Several groups behind each other: the Smith set is the first one, wherever its candidates are.
func TestGroups(t *testing.T) {
	random := rand.New(rand.NewSource(171))
	for _, many := range [][]int{{1, 3}, {3, 1}, {3, 3}, {3, 4, 3}, {1, 3, 3, 3}, {1, 1, 8}, {4, 1, 5}, {3, 1, 1, 5}, {5, 5}, {9, 1}, {1, 9}, {2, 1}, {2, 2, 2}, {2, 8}, {1, 2, 1}, {3, 3, 3, 1}, {7, 3}, {10}} {
		for range 20 {
			m, cands := groups(many...)
			perm := random.Perm(cands)
			renamed, e := pairs.Rename(m, perm)
			if e != api.OK {
				t.Fatal(int(e))
			}
			winner, loser := none, none
			if many[0] == 1 {
				winner = perm[0]
			}
			if many[len(many)-1] == 1 {
				loser = perm[cands-1]
			}
			checkAll(t, renamed, cands, winner, loser, slices.Sorted(slices.Values(perm[:many[0]]))...)
		}
	}
}

// Nobody beats a member, and yet a set is too small as long as a member is level with somebody outside.
func TestLevelWithSomebodyOutside(t *testing.T) {
	// 0 beats all but 4, with which it is level; 4 is beaten by 1, 2 and 3.
	m := with(ladder(5, 1), 0, 4, 0)
	checkAll(t, m, 5, none, none, upTo(5)...)
	// The same ahead of two others, who are beaten by all five.
	m = with(ladder(7, 1), 0, 4, 0)
	checkAll(t, m, 7, none, 6, upTo(5)...)
	// 0 and 1 are level, and 1 and 2, so that none of the three can be without the next.
	m = with(with(ladder(5, 1), 0, 1, 0), 1, 2, 0)
	checkAll(t, m, 5, none, 4, 0, 1, 2)
	// 0 and 1 are level and beat all others.
	checkAll(t, with(ladder(10, 1), 0, 1, 0), 10, none, 9, 0, 1)
}

// Somebody outside the Smith set may beat by greater margins, and more ballots may prefer it.
func TestNumbersDoNotWeigh(t *testing.T) {
	m := matrix([]int{0, 501, 501, 501}, []int{500, 0, 1000000, 1000000}, []int{500, 0, 0, 1000000}, []int{500})
	checkAll(t, m, 4, 0, 3, 0)
	m = matrix([]int{0, 2, 1, 2}, []int{1, 0, 2, 2}, []int{2, 1, 0, 2}, []int{1, 1, 1})
	checkAll(t, m, 4, none, 3, 0, 1, 2)
	renamed, _ := pairs.Rename(m, []int{3, 1, 2, 0})
	checkAll(t, renamed, 4, none, 0, 1, 2, 3)
}

// Entries that are just valid, and such that are not.
func TestEntriesAtTheLimit(t *testing.T) {
	for x := range 10 {
		for _, y := range others(10, x) {
			for _, c := range []struct{ n, back int }{{1000000, 0}, {999999, 1}, {500000, 500000}, {500001, 499999}, {0, 1000000}, {499999, 500001}} {
				m := with(with(every(10, 500000), x, y, c.n), y, x, c.back)
				checkModels(t, m, 10)
				if l, e := condorcet.Smith(m, 10); e != api.OK || len(l) != 10 {
					t.Errorf("Smith of %v is %v, %d", m, l, int(e))
				}
				checkWrong(t, with(m, x, y, c.n+1), 10, api.ErrBad)
				checkWrong(t, with(m, y, x, c.back+1), 10, api.ErrBad)
			}
		}
	}
}

// Wrong arguments

// wrongNumbers are not between 1 and 10.
func wrongNumbers() []int {
	return slices.DeleteFunc(append(wilds(), -100, 100, 13, 1<<32+10, 256+3, 1<<16+4, -3), func(n int) bool { return n >= 1 && n <= 10 })
}

func TestWrongNumbersOfCandidates(t *testing.T) {
	for _, cands := range wrongNumbers() {
		for _, m := range []api.Pairs{{}, ladder(3, 1), ladder(10, 1000000), every(10, 500000), every(2, 1), every(10, -1), with(api.Pairs{}, 3, 3, 1), with(api.Pairs{}, 0, 1, math.MaxInt), every(10, 500001)} {
			checkWrong(t, m, cands, api.ErrArg)
		}
	}
	for cands := 1; cands <= 10; cands++ {
		if _, e := checkModels(t, api.Pairs{}, cands); e != api.OK {
			t.Errorf("%d candidates: %d", cands, int(e))
		}
	}
}

// A matrix is not valid among fewer candidates than have entries, and it is among more.
func TestOtherNumbersOfCandidates(t *testing.T) {
	for cands := 1; cands <= 10; cands++ {
		for have := 2; have <= 10; have++ {
			m := ladder(have, 3)
			switch {
			case cands < have:
				checkWrong(t, m, cands, api.ErrBad)
				checkWrong(t, pairs.Turn(m), cands, api.ErrBad)
			case cands == have:
				checkAll(t, m, cands, 0, cands-1, 0)
			default:
				checkAll(t, m, cands, none, none, upTo(cands)...) // 0 is level with those that have none
			}
		}
	}
}

// Each entry of a matrix with each number that is not valid there.
func TestWrongEntries(t *testing.T) {
	seen := map[api.Errno]int{}
	for _, m := range []api.Pairs{{}, ladder(10, 1000000), every(10, 500000), ladder(4, 2)} {
		for x := range 10 {
			for y := range 10 {
				for _, n := range wilds() {
					_, e := checkModels(t, with(m, x, y, n), 4+6*(n&1))
					seen[e]++
				}
			}
		}
	}
	if seen[api.OK] < 1000 || seen[api.ErrBad] < 5000 {
		t.Errorf("the matrices have the errors %v", seen)
	}
	for cands := 1; cands <= 10; cands++ {
		for x := range 10 {
			checkWrong(t, with(api.Pairs{}, x, x, 1), cands, api.ErrBad)
			checkWrong(t, with(api.Pairs{}, x, x, -1), cands, api.ErrBad)
			for _, y := range others(10, x) {
				checkWrong(t, with(api.Pairs{}, x, y, -1), cands, api.ErrBad)
				checkWrong(t, with(api.Pairs{}, x, y, math.MinInt), cands, api.ErrBad)
				checkWrong(t, with(with(api.Pairs{}, x, y, math.MaxInt), y, x, math.MaxInt), cands, api.ErrBad)
				checkWrong(t, with(with(api.Pairs{}, x, y, 1000001), y, x, -1), cands, api.ErrBad)
				if max(x, y) >= cands {
					checkWrong(t, with(api.Pairs{}, x, y, 1), cands, api.ErrBad)
				} else {
					checkModels(t, with(api.Pairs{}, x, y, 1), cands)
				}
			}
		}
	}
}

// The model

// relations returns all matrices of candidates each of which beats, is beaten by or is level with each other.
func relations(cands int) []api.Pairs {
	all := []api.Pairs{{}}
	for x := range cands {
		for y := range x {
			for _, m := range all {
				all = append(all, with(with(m, x, y, 7), y, x, 3), with(with(m, x, y, 3), y, x, 7))
			}
		}
	}
	return all
}

func TestAllRelationsHaveTheModelsAnswers(t *testing.T) {
	for cands, want := range map[int]int{1: 1, 2: 3, 3: 27, 4: 729, 5: 59049} {
		all := relations(cands)
		if len(all) != want {
			t.Fatalf("%d relations of %d", len(all), cands)
		}
		sizes := map[int]int{}
		for _, m := range all {
			l, e := checkModels(t, m, cands)
			if e != api.OK {
				t.Fatal(int(e))
			}
			sizes[len(l)]++
		}
		if len(sizes) != cands {
			t.Errorf("the Smith sets of %d have the sizes %v", cands, sizes)
		}
	}
}

func TestRandomMatricesHaveTheModelsAnswers(t *testing.T) {
	random := rand.New(rand.NewSource(172))
	sizes := map[int]int{}
	wrong := 0
	for range 20000 {
		cands := 1 + random.Intn(10)
		m := randomMatrix(random, cands)
		if random.Intn(5) == 0 {
			m = spoiltMatrix(random, m)
		}
		if random.Intn(10) == 0 {
			cands = random.Intn(14) - 1
		}
		l, e := checkModels(t, m, cands)
		if e != api.OK {
			wrong++
		}
		sizes[len(l)]++
	}
	for n := 1; n <= 10; n++ {
		if sizes[n] < 100 {
			t.Errorf("the Smith sets have the sizes %v", sizes)
		}
	}
	if wrong < 1000 {
		t.Errorf("%d matrices are wrong", wrong)
	}
}
