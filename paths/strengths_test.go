package paths_test

import (
	"math"
	"math/rand"
	"slices"
	"testing"

	"suffrage/api"
	"suffrage/pairs"
	"suffrage/paths"
)

// P13.1

// matrix returns the matrix with these entries in its first rows and columns.
func matrix(rows ...[]int) api.Pairs {
	var m api.Pairs
	for x, r := range rows {
		copy(m[x][:], r)
	}
	return m
}

// with returns m with another entry at [x][y].
func with(m api.Pairs, x, y, entry int) api.Pairs {
	m[x][y] = entry
	return m
}

// every returns a matrix with one entry for all pairs of different candidates.
func every(cands, entry int) api.Pairs {
	var m api.Pairs
	for x := range cands {
		for _, y := range others(cands, x) {
			m[x][y] = entry
		}
	}
	return m
}

// ladder returns the matrix in which each candidate beats all that come later.
func ladder(cands, entry int) api.Pairs {
	var m api.Pairs
	for x := range cands {
		for y := range x {
			m[y][x] = entry
		}
	}
	return m
}

// chain returns the matrix with links of these strengths from 0 to 1, from 1 to 2 and so on.
func chain(strengths ...int) api.Pairs {
	var m api.Pairs
	for x, n := range strengths {
		m[x][x+1] = n
	}
	return m
}

// ring returns the matrix with links of these strengths from each candidate to the next one, the last of them from the last candidate to 0.
func ring(strengths ...int) api.Pairs {
	var m api.Pairs
	for x, n := range strengths {
		m[x][(x+1)%len(strengths)] = n
	}
	return m
}

// groups returns the matrix of groups of so many candidates. Each group is a ring of links of strength 4, and each of it has a link of strength 9 to all in later groups.
func groups(many ...int) (m api.Pairs, cands int) {
	for _, n := range many {
		for y := cands; y < cands+n; y++ {
			for x := range cands {
				m[x][y] = 9
			}
			if n > 2 {
				m[y][cands+(y-cands+1)%n] = 4
			}
		}
		cands += n
	}
	return m, cands
}

func checkStrength(t *testing.T, m api.Pairs, want int, path ...int) {
	t.Helper()
	if n := paths.Strength(m, path...); n != want {
		t.Errorf("the strength of %v in %v is %d; want %d", path[:min(len(path), 50)], m, n, want)
	}
	if n := modelStrength(m, path); n != want {
		t.Errorf("the model's strength of %v in %v is %d; want %d", path[:min(len(path), 50)], m, n, want)
	}
}

func checkStrengths(t *testing.T, m api.Pairs, cands int, want api.Pairs) {
	t.Helper()
	if s, e := paths.Strengths(m, cands); s != want || e != api.OK {
		t.Errorf("the strengths of %v among %d are %v, %d; want %v", m, cands, s, int(e), want)
	}
	if s, e := modelStrengths(m, cands); s != want || e != api.OK {
		t.Errorf("the model's strengths of %v among %d are %v, %d; want %v", m, cands, s, int(e), want)
	}
}

func checkWrong(t *testing.T, m api.Pairs, cands int, want api.Errno) {
	t.Helper()
	if s, e := paths.Strengths(m, cands); s != (api.Pairs{}) || e != want {
		t.Errorf("the strengths of %v among %d are %v, %d; want nothing, %d", m, cands, s, int(e), int(want))
	}
}

func checkModel(t *testing.T, m api.Pairs, cands int) (api.Pairs, api.Errno) {
	t.Helper()
	s, e := paths.Strengths(m, cands)
	want, wantE := modelStrengths(m, cands)
	if s != want || e != wantE {
		t.Errorf("the strengths of %v among %d are %v, %d; want %v, %d", m, cands, s, int(e), want, int(wantE))
	}
	return s, e
}

// theMatrix is the matrix of the document's example.
func theMatrix() api.Pairs { return matrix([]int{0, 5, 3}, []int{2, 0, 5}, []int{4, 2, 0}) }

func TestMatrixOfTheExample(t *testing.T) {
	if m, e := pairs.Of(theExample()); m != theMatrix() || e != api.OK {
		t.Fatalf("the matrix is %v, %d", m, int(e))
	}
	checkStrengths(t, theMatrix(), 3, matrix([]int{0, 5, 5}, []int{4, 0, 5}, []int{4, 4, 0}))
	checkStrength(t, theMatrix(), 5, 0, 1)
	checkStrength(t, theMatrix(), 5, 0, 1, 2)
	checkStrength(t, theMatrix(), 4, 0, 1, 2, 0)
	checkStrength(t, theMatrix(), 4, 2, 0, 1)
	checkStrength(t, theMatrix(), 0, 0, 2)
	checkStrength(t, theMatrix(), 0, 2, 1)
	checkStrength(t, theMatrix(), 0, 2, 0, 1, 0)
}

// Strength

func TestShortPaths(t *testing.T) {
	for _, m := range []api.Pairs{{}, theMatrix(), ladder(10, 1000000), every(10, 500000)} {
		checkStrength(t, m, 0)
		for c := range 10 {
			checkStrength(t, m, 0, c)
		}
		for _, c := range wilds() {
			checkStrength(t, m, 0, c)
		}
	}
	m := ladder(10, 7)
	for x := range 10 {
		for y := range 10 {
			want := 0
			if x < y {
				want = 7
			}
			checkStrength(t, m, want, x, y)
		}
	}
}

// Links of the least strength that there is, and of the greatest; and pairs that are just level.
func TestLinksAtTheLimit(t *testing.T) {
	for _, c := range []struct{ n, back, want int }{
		{0, 0, 0}, {1, 0, 1}, {1, 1, 0}, {2, 1, 2}, {500000, 500000, 0}, {500000, 499999, 500000}, {500001, 499999, 500001}, {499999, 500000, 0}, {999999, 1, 999999}, {1000000, 0, 1000000}, {999999, 0, 999999},
	} {
		m := with(with(api.Pairs{}, 3, 9, c.n), 9, 3, c.back)
		checkStrength(t, m, c.want, 3, 9)
		checkStrengths(t, m, 10, with(with(api.Pairs{}, 3, 9, c.want), 9, 3, strengthBack(c.n, c.back)))
	}
}

// strengthBack returns the strength of the link back, where n prefer the one to the other, and back the other to the one.
func strengthBack(n, back int) int {
	if back > n {
		return back
	}
	return 0
}

// The weakest link is the first one, one in the middle, or the last one; and links may be equally weak.
func TestTheWeakestLink(t *testing.T) {
	for length := 1; length <= 9; length++ {
		for at := range length {
			strengths := slices.Repeat([]int{600}, length)
			strengths[at] = 13
			checkStrength(t, chain(strengths...), 13, upTo(length+1)...)
			checkStrength(t, pairs.Turn(chain(strengths...)), 13, downFrom(length+1)...)
			for other := range at {
				strengths[other] = 13
				checkStrength(t, chain(strengths...), 13, upTo(length+1)...)
				strengths[other] = 12
				checkStrength(t, chain(strengths...), 12, upTo(length+1)...)
				strengths[other] = 600
			}
		}
	}
	m := chain(9, 8, 7, 6, 5, 4, 3, 2, 1)
	for from := range 10 {
		for to := from + 1; to < 10; to++ {
			checkStrength(t, m, 10-to, upTo(10)[from:to+1]...)
			checkStrength(t, chain(1, 2, 3, 4, 5, 6, 7, 8, 9), from+1, upTo(10)[from:to+1]...)
		}
	}
}

// The strength is an entry, not a margin.
func TestStrengthsAreEntries(t *testing.T) {
	m := matrix([]int{0, 100, 0}, []int{99, 0, 10}, []int{0, 0, 0})
	checkStrength(t, m, 100, 0, 1)
	checkStrength(t, m, 10, 0, 1, 2)
	checkStrength(t, with(m, 1, 2, 101), 100, 0, 1, 2)
	checkStrengths(t, m, 3, matrix([]int{0, 100, 10}, []int{0, 0, 10}))
}

// One step that is no link makes the sequence none: the first one, one in the middle, the last one; beaten, level, or without any ballot.
func TestStepsWithoutALink(t *testing.T) {
	for length := 1; length <= 9; length++ {
		for at := range length {
			for _, c := range []struct{ n, back int }{{0, 0}, {0, 1}, {5, 5}, {5, 6}, {499999, 500001}, {500000, 500000}, {0, 1000000}} {
				m := chain(slices.Repeat([]int{8}, length)...)
				checkStrength(t, with(with(m, at, at+1, c.n), at+1, at, c.back), 0, upTo(length+1)...)
			}
		}
	}
	checkStrength(t, ladder(10, 3), 0, 4, 3)
	checkStrength(t, ladder(10, 3), 0, 2, 5, 4, 6)
	checkStrength(t, ladder(10, 3), 3, 2, 4, 5, 6)
}

// A path may come back to a candidate, and take a link again; but there is no link from a candidate to itself.
func TestCandidatesMoreThanOnce(t *testing.T) {
	m := with(with(ring(8, 7, 9), 1, 3, 6), 3, 0, 5)
	checkStrength(t, m, 7, 0, 1, 2, 0)
	checkStrength(t, m, 7, 0, 1, 2, 0, 1, 2, 0, 1)
	checkStrength(t, m, 8, 2, 0, 1)
	checkStrength(t, m, 5, 0, 1, 2, 0, 1, 3, 0)
	checkStrength(t, m, 6, 0, 1, 2, 0, 1, 3)
	for c := range 10 {
		checkStrength(t, m, 0, c, c)
		checkStrength(t, ladder(10, 4), 0, c, c)
		checkStrength(t, every(10, 4), 0, c, c, c)
	}
	checkStrength(t, m, 0, 0, 0, 1)
	checkStrength(t, m, 0, 0, 1, 1, 2)
	checkStrength(t, m, 0, 0, 1, 2, 2)
	checkStrength(t, m, 0, 0, 1, 0)
}

// Wherever there is something that is no candidate, there is no path.
func TestWildIndices(t *testing.T) {
	for _, wild := range append(wilds(), -3, 100, 1<<32+10, 256+10, -1<<32+2, math.MinInt+5) {
		if wild >= 0 && wild < 10 {
			continue
		}
		for _, m := range []api.Pairs{{}, ladder(10, 1000000), ring(1, 1, 1, 1, 1, 1, 1, 1, 1, 1)} {
			checkStrength(t, m, 0, wild)
			checkStrength(t, m, 0, wild, wild)
			checkStrength(t, m, 0, wild, 1)
			checkStrength(t, m, 0, 1, wild)
			for at := range 11 {
				checkStrength(t, m, 0, slices.Insert(upTo(10), at, wild)...)
			}
			for at := range 10 {
				checkStrength(t, m, 0, slices.Concat(upTo(10)[:at], []int{wild}, upTo(10)[at+1:])...)
			}
		}
	}
}

func TestLongPaths(t *testing.T) {
	m := with(with(ring(800, 700, 900), 1, 3, 6), 3, 0, 500)
	for _, length := range []int{10, 11, 12, 100, 101, 1000, 4096, 1 << 17} {
		path := make([]int, length)
		for i := range path {
			path[i] = i % 3
		}
		checkStrength(t, m, 700, path...)
		for _, at := range []int{1, length / 2, length - 2} {
			at -= at % 3
			if at < 3 {
				at = 3
			}
			// By way of 3 from 1 to 0.
			if path[at-1] != 2 || path[at-2] != 1 {
				t.Fatal("not from 1 to 0")
			}
			path[at-1] = 3
			checkStrength(t, m, 6, path...)
			path[at-1] = -1
			checkStrength(t, m, 0, path...)
			path[at-1] = 1
			checkStrength(t, m, 0, path...)
			path[at-1] = 2
		}
		checkStrength(t, m, 0, append(path, path[length-1])...)
		checkStrength(t, m, 0, append(path, 10)...)
		checkStrength(t, with(m, 9, 9, 1), 0, path...)
	}
}

// wrongMatrices returns matrices that are not valid among ten candidates, with a link from 0 to 1.
func wrongMatrices() []api.Pairs {
	var l []api.Pairs
	m := chain(5, 5)
	for x := range 10 {
		for _, n := range []int{1, -1, 1000000, math.MaxInt, math.MinInt} {
			l = append(l, with(m, x, x, n))
		}
		for _, y := range others(10, x) {
			if x < 2 && y < 2 {
				continue
			}
			for _, n := range []int{-1, -1000000, math.MinInt, 1000001, math.MaxInt} {
				l = append(l, with(with(m, x, y, n), y, x, 0))
			}
			l = append(l, with(with(m, x, y, 500001), y, x, 500000), with(with(m, x, y, 1000000), y, x, 1), with(with(m, x, y, math.MaxInt), y, x, math.MaxInt), with(with(m, x, y, 1000001), y, x, -1), with(with(m, x, y, 1<<62), y, x, 1<<62))
		}
	}
	return append(l, with(m, 1, 0, -1), with(m, 0, 1, 1000001), with(m, 1, 0, 999996), with(with(m, 0, 1, 1000001), 1, 0, -1), every(10, -1), every(10, 500001))
}

// In a matrix that is not valid there is no path, wherever the fault is.
func TestPathsInWrongMatrices(t *testing.T) {
	checkStrength(t, chain(5, 5), 5, 0, 1)
	checkStrength(t, chain(5, 5), 5, 0, 1, 2)
	for _, m := range wrongMatrices() {
		checkStrength(t, m, 0)
		checkStrength(t, m, 0, 0)
		checkStrength(t, m, 0, 0, 1)
		checkStrength(t, m, 0, 0, 1, 2)
		checkStrength(t, m, 0, 1, 2)
		checkStrength(t, m, 0, 5, 4, 9)
		checkWrong(t, m, 10, api.ErrBad)
	}
}

func TestRandomPathsHaveTheModelsStrength(t *testing.T) {
	random := rand.New(rand.NewSource(201))
	found, none := 0, 0
	for range 20000 {
		m := randomMatrix(random, 1+random.Intn(10))
		if random.Intn(8) == 0 {
			m = spoiltMatrix(random, m)
		}
		path := randomPath(random, m)
		n := paths.Strength(m, path...)
		if want := modelStrength(m, path); n != want {
			t.Errorf("the strength of %v in %v is %d; want %d", path, m, n, want)
		}
		if n > 0 && len(path) > 4 {
			found++
		}
		if n == 0 && len(path) > 4 {
			none++
		}
	}
	if found < 1000 || none < 1000 {
		t.Errorf("%d sequences of more than four are paths, and %d are none", found, none)
	}
}

// Strengths

func TestNoLinks(t *testing.T) {
	for cands := 1; cands <= 10; cands++ {
		checkStrengths(t, api.Pairs{}, cands, api.Pairs{})
		// Equal numbers in both directions are no link.
		for _, n := range []int{1, 2, 250000, 500000} {
			checkStrengths(t, every(cands, n), cands, api.Pairs{})
		}
	}
}

func TestOneLink(t *testing.T) {
	for cands := 2; cands <= 10; cands++ {
		for x := range cands {
			for _, y := range others(cands, x) {
				checkStrengths(t, with(api.Pairs{}, x, y, 3), cands, with(api.Pairs{}, x, y, 3))
				checkStrengths(t, with(every(cands, 3), x, y, 4), cands, with(api.Pairs{}, x, y, 4))
				checkStrengths(t, with(every(cands, 500000), x, y, 499999), cands, with(api.Pairs{}, y, x, 500000))
			}
		}
	}
}

// In a chain there is one path from each to each later one; the longest leads through all candidates.
func TestChains(t *testing.T) {
	for cands := 2; cands <= 10; cands++ {
		for _, strengths := range [][]int{{9, 8, 7, 6, 5, 4, 3, 2, 1}, {1, 2, 3, 4, 5, 6, 7, 8, 9}, {5, 5, 5, 5, 5, 5, 5, 5, 5}, {7, 9, 8, 9, 3, 9, 9, 4, 9}, {1000000, 999999, 1, 1000000, 500000, 500001, 2, 2, 3}} {
			strengths = strengths[:cands-1]
			var want api.Pairs
			for x := range cands {
				for y := x + 1; y < cands; y++ {
					want[x][y] = slices.Min(strengths[x:y])
				}
			}
			m := chain(strengths...)
			checkStrengths(t, m, cands, want)
			checkStrengths(t, pairs.Turn(m), cands, pairs.Turn(want))
			for _, perm := range [][]int{downFrom(cands), append(upTo(cands)[1:], 0)} {
				checkStrengths(t, modelRenameMatrix(m, perm), cands, modelRenameMatrix(want, perm))
			}
		}
	}
}

// A strong path round about is better than a weak link, and a weak one is not; and it may be as long as there are candidates.
func TestWaysRoundAbout(t *testing.T) {
	checkStrengths(t, with(chain(9, 8), 0, 2, 7), 3, matrix([]int{0, 9, 8}, []int{0, 0, 8}))
	checkStrengths(t, with(chain(9, 8), 0, 2, 8), 3, matrix([]int{0, 9, 8}, []int{0, 0, 8}))
	checkStrengths(t, with(chain(9, 7), 0, 2, 8), 3, matrix([]int{0, 9, 8}, []int{0, 0, 7}))
	for cands := 3; cands <= 10; cands++ {
		for direct := 1; direct <= 9; direct++ {
			m := with(chain(slices.Repeat([]int{5}, cands-1)...), 0, cands-1, direct)
			checkStrengths(t, m, cands, with(ladder(cands, 5), 0, cands-1, max(5, direct)))
		}
	}
	// Ladders: each link of one step is stronger than all links of more steps.
	for cands := 2; cands <= 10; cands++ {
		m := ladder(cands, 2)
		for x := range cands - 1 {
			m[x][x+1] = 3
		}
		checkStrengths(t, m, cands, ladder(cands, 3))
		checkStrengths(t, ladder(cands, 1000000), cands, ladder(cands, 1000000))
	}
	// Three ways from 0 to 9, of different lengths, with the strengths 4, 6 and 5.
	m := with(with(with(with(with(with(with(with(api.Pairs{}, 0, 1, 4), 1, 9, 9), 0, 2, 7), 2, 3, 6), 3, 4, 8), 4, 9, 6), 0, 5, 5), 5, 9, 5)
	if s := strengthsOf(m, 10); s[0][9] != 6 || s[0][1] != 4 || s[0][5] != 5 || s[2][9] != 6 || s[1][9] != 9 || s[9] != [10]int{} || s[6] != [10]int{} {
		t.Errorf("the strengths are %v", s)
	}
}

// From a candidate to itself the strength is 0, also where paths come back to it.
func TestRings(t *testing.T) {
	for cands := 3; cands <= 10; cands++ {
		strengths := []int{6, 9, 4, 8, 7, 5, 9, 6, 8, 7}[:cands]
		var want api.Pairs
		for x := range cands {
			for steps := 1; steps < cands; steps++ {
				want[x][(x+steps)%cands] = slices.Min(append(strengths, strengths...)[x : x+steps])
			}
		}
		checkStrengths(t, ring(strengths...), cands, want)
		checkStrengths(t, pairs.Turn(ring(strengths...)), cands, pairs.Turn(want))
		checkStrengths(t, ring(slices.Repeat([]int{1000000}, cands)...), cands, every(cands, 1000000))
		// A ladder whose last candidate beats the first one.
		m := with(with(ladder(cands, 3), 0, cands-1, 0), cands-1, 0, 2)
		want = pairs.Turn(ladder(cands, 2))
		for x := range cands {
			for y := x + 1; y < cands; y++ {
				want[x][y] = 3
			}
		}
		checkStrengths(t, m, cands, want)
	}
	checkStrengths(t, ring(5, 6, 7), 3, matrix([]int{0, 5, 5}, []int{6, 0, 6}, []int{7, 5, 0}))
	checkStrengths(t, ring(1, 1, 1), 3, every(3, 1))
}

// Groups behind each other: within a ring, all strengths are its own; ahead, those of the links; and none leads back.
func TestGroups(t *testing.T) {
	random := rand.New(rand.NewSource(202))
	for _, many := range [][]int{{1, 3}, {3, 1}, {3, 3}, {3, 4, 3}, {1, 3, 3, 3}, {1, 1, 8}, {4, 1, 5}, {3, 1, 1, 5}, {5, 5}, {9, 1}, {1, 9}, {2, 1}, {2, 2, 2}, {2, 8}, {1, 2, 1}, {3, 3, 3, 1}, {7, 3}, {10}} {
		m, cands := groups(many...)
		var want api.Pairs
		start := 0
		for _, n := range many {
			for y := start; y < start+n; y++ {
				for x := range start {
					want[x][y] = 9
				}
				for x := start; x < start+n; x++ {
					if x != y && n > 2 {
						want[x][y] = 4
					}
				}
			}
			start += n
		}
		checkStrengths(t, m, cands, want)
		for range 10 {
			perm := random.Perm(cands)
			checkStrengths(t, modelRenameMatrix(m, perm), cands, modelRenameMatrix(want, perm))
		}
	}
}

// Matrices and strengths that others have published.
func TestPublishedStrengths(t *testing.T) {
	checkStrengths(t, matrixOf(t, fiveCandidates()), 5, matrix([]int{0, 28, 28, 30, 24}, []int{25, 0, 28, 33, 24}, []int{25, 29, 0, 29, 24}, []int{25, 28, 28, 0, 24}, []int{25, 28, 28, 31, 0}))
	checkStrengths(t, matrixOf(t, fourCandidates()), 4, matrix([]int{0, 20, 20, 17}, []int{19, 0, 19, 17}, []int{19, 21, 0, 17}, []int{18, 18, 18, 0}))
}

// Where an index is that of no candidate, the strength is 0.
func TestFewerCandidatesThanTheMatrixHasRoomFor(t *testing.T) {
	random := rand.New(rand.NewSource(203))
	for range 2000 {
		have := 1 + random.Intn(10)
		m := randomMatrix(random, have)
		s := strengthsOf(m, have)
		for x := range 10 {
			for y := range 10 {
				if (x >= have || y >= have || x == y) && s[x][y] != 0 {
					t.Errorf("the strengths of %v among %d are %v", m, have, s)
				}
			}
		}
		for cands := have; cands <= 10; cands++ {
			checkStrengths(t, m, cands, s)
		}
	}
}

// Entries that are just valid, and such that are not.
func TestEntriesAtTheLimit(t *testing.T) {
	for x := range 10 {
		for _, y := range others(10, x) {
			for _, c := range []struct{ n, back int }{{1000000, 0}, {999999, 1}, {500000, 500000}, {500001, 499999}, {0, 1000000}, {499999, 500001}} {
				m := with(with(every(10, 500000), x, y, c.n), y, x, c.back)
				if _, e := checkModel(t, m, 10); e != api.OK {
					t.Errorf("%v has the error %d", m, int(e))
				}
				checkWrong(t, with(m, x, y, c.n+1), 10, api.ErrBad)
				checkWrong(t, with(m, y, x, c.back+1), 10, api.ErrBad)
				checkStrength(t, with(m, x, y, c.n+1), 0, x, y)
			}
		}
	}
}

// The strengths may be such that no matrix has: both from one to another and back they may be as great as can be.
func TestTheGreatestStrengths(t *testing.T) {
	s := strengthsOf(ring(1000000, 1000000, 1000000), 3)
	if s != every(3, 1000000) || pairs.Right(s, 3) {
		t.Errorf("the strengths are %v", s)
	}
}

// Wrong arguments

func TestWrongNumbersOfCandidates(t *testing.T) {
	for _, cands := range append(wilds(), -100, 100, 13, 1<<32+10, 256+3, 1<<16+4, -3) {
		if cands >= 1 && cands <= 10 {
			continue
		}
		for _, m := range []api.Pairs{{}, ladder(3, 1), ladder(10, 1000000), every(10, 500000), every(2, 1), every(10, -1), with(api.Pairs{}, 3, 3, 1), with(api.Pairs{}, 0, 1, math.MaxInt), every(10, 500001)} {
			checkWrong(t, m, cands, api.ErrArg)
		}
	}
	for cands := 1; cands <= 10; cands++ {
		if _, e := checkModel(t, api.Pairs{}, cands); e != api.OK {
			t.Errorf("%d candidates: %d", cands, int(e))
		}
	}
}

// A matrix is not valid among fewer candidates than have entries.
func TestTooFewCandidates(t *testing.T) {
	for cands := 1; cands <= 10; cands++ {
		for have := 2; have <= 10; have++ {
			m := ladder(have, 3)
			if cands < have {
				checkWrong(t, m, cands, api.ErrBad)
				checkWrong(t, pairs.Turn(m), cands, api.ErrBad)
				checkWrong(t, every(have, 5), cands, api.ErrBad)
				continue
			}
			checkStrengths(t, m, cands, m)
		}
	}
}

// Each entry of a matrix with each number that is not valid there.
func TestWrongEntries(t *testing.T) {
	seen := map[api.Errno]int{}
	for _, m := range []api.Pairs{{}, ladder(10, 1000000), every(10, 500000), ladder(4, 2)} {
		for x := range 10 {
			for y := range 10 {
				for _, n := range wilds() {
					_, e := checkModel(t, with(m, x, y, n), 4+6*(n&1))
					seen[e]++
				}
			}
		}
	}
	if seen[api.OK] < 1000 || seen[api.ErrBad] < 5000 {
		t.Errorf("the matrices have the errors %v", seen)
	}
	for cands := 1; cands <= 10; cands++ {
		for x := range 10 {
			checkWrong(t, with(api.Pairs{}, x, x, 1), cands, api.ErrBad)
			checkWrong(t, with(api.Pairs{}, x, x, -1), cands, api.ErrBad)
			for _, y := range others(10, x) {
				checkWrong(t, with(api.Pairs{}, x, y, -1), cands, api.ErrBad)
				checkWrong(t, with(api.Pairs{}, x, y, math.MinInt), cands, api.ErrBad)
				checkWrong(t, with(with(api.Pairs{}, x, y, math.MaxInt), y, x, math.MaxInt), cands, api.ErrBad)
				checkWrong(t, with(with(api.Pairs{}, x, y, 1000001), y, x, -1), cands, api.ErrBad)
				if max(x, y) >= cands {
					checkWrong(t, with(api.Pairs{}, x, y, 1), cands, api.ErrBad)
				} else {
					checkStrengths(t, with(api.Pairs{}, x, y, 1), cands, with(api.Pairs{}, x, y, 1))
				}
			}
		}
	}
}

// The model

// linked returns all matrices in which two candidates are level, or one has a link to the other, of one of the strengths.
func linked(cands int, strengths ...int) []api.Pairs {
	all := []api.Pairs{{}}
	for x := range cands {
		for y := range x {
			for _, m := range all {
				for _, n := range strengths {
					all = append(all, with(m, x, y, n), with(m, y, x, n))
				}
			}
		}
	}
	return all
}

// weighted returns m with each entry multiplied by a number up to most.
func weighted(random *rand.Rand, m api.Pairs, most int) api.Pairs {
	for x := range m {
		for y := range m {
			m[x][y] *= 1 + random.Intn(most)
		}
	}
	return m
}

func TestAllLinksHaveTheModelsStrengths(t *testing.T) {
	for _, all := range [][]api.Pairs{linked(1, 1), linked(2, 1, 2, 3), linked(3, 1, 2, 3, 4), linked(4, 1, 2)} {
		for _, m := range all {
			if _, e := checkModel(t, m, 4); e != api.OK {
				t.Fatal(m, int(e))
			}
		}
	}
	// Five candidates, with strengths at random.
	random := rand.New(rand.NewSource(204))
	all := linked(5, 1)
	if len(all) != 59049 {
		t.Fatalf("%d matrices", len(all))
	}
	for _, m := range all {
		checkModel(t, weighted(random, m, 9), 5)
	}
}

func TestRandomMatricesHaveTheModelsStrengths(t *testing.T) {
	random := rand.New(rand.NewSource(205))
	wrong, better, without := 0, 0, 0
	for range 4000 {
		cands := 1 + random.Intn(10)
		m := randomMatrix(random, cands)
		if random.Intn(8) == 0 {
			m = spoiltMatrix(random, m)
		}
		if random.Intn(12) == 0 {
			cands = random.Intn(14) - 1
		}
		s, e := checkModel(t, m, cands)
		if e != api.OK {
			wrong++
			continue
		}
		for x := range cands {
			for _, y := range others(cands, x) {
				if s[x][y] == 0 {
					without++
				} else if n := paths.Strength(m, x, y); s[x][y] > n {
					better++
				}
			}
		}
	}
	if wrong < 400 || better < 10000 || without < 10000 {
		t.Errorf("%d matrices are wrong; %d paths are better than a link, and %d pairs have none", wrong, better, without)
	}
}

// The strengths are those that Strength finds of all sequences without repetition.
func TestStrengthsAreThoseOfPaths(t *testing.T) {
	random := rand.New(rand.NewSource(206))
	for cands := 1; cands <= 5; cands++ {
		for range 100 {
			m := randomMatrix(random, cands)
			var want api.Pairs
			for _, lot := range lots(cands) {
				for end := 2; end <= cands; end++ {
					from, to := lot[0], lot[end-1]
					want[from][to] = max(want[from][to], paths.Strength(m, lot[:end]...))
				}
			}
			checkStrengths(t, m, cands, want)
		}
	}
}
