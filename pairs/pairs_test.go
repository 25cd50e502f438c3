package pairs_test

import (
	"math"
	"math/rand"
	"slices"
	"testing"

	"suffrage/api"
	"suffrage/pairs"
	"suffrage/profile"
)

func row(many int, marks ...int) api.Row { return api.Row{Marks: marks, Many: many} }

// of returns a profile with rows, valid or not.
func of(cands int, kind uint8, rows ...api.Row) api.Profile {
	return api.Profile{Cands: cands, Kind: kind, Rows: rows}
}

// matrix returns the matrix with these entries in its first rows and columns.
func matrix(rows ...[]int) api.Pairs {
	var m api.Pairs
	for x, r := range rows {
		copy(m[x][:], r)
	}
	return m
}

// with returns m with another entry at [x][y].
func with(m api.Pairs, x, y, entry int) api.Pairs {
	m[x][y] = entry
	return m
}

// every returns a matrix with one entry for all pairs of different candidates.
func every(cands, entry int) api.Pairs {
	var m api.Pairs
	for x := range cands {
		for y := range cands {
			if x != y {
				m[x][y] = entry
			}
		}
	}
	return m
}

// ladder returns the matrix in which each candidate beats all that come later.
func ladder(cands, entry int) api.Pairs {
	var m api.Pairs
	for x := range cands {
		for y := range x {
			m[y][x] = entry
		}
	}
	return m
}

// example is the matrix of the document's example.
func example() api.Pairs { return matrix([]int{0, 3, 3}, []int{2, 0, 5}, []int{2, 0, 0}) }

// chain returns the ranking of all candidates in order.
func chain(cands, many int) api.Profile { return of(cands, 1, row(many, upTo(cands)...)) }

// P10.1: Of

func checkOf(t *testing.T, p api.Profile, want api.Pairs, wantE api.Errno) {
	t.Helper()
	if m, e := pairs.Of(p); m != want || e != wantE {
		t.Errorf("Of(%s) = %v, %d; want %v, %d", show(p), m, int(e), want, int(wantE))
	}
}

func TestOfTheExample(t *testing.T) {
	checkOf(t, of(3, 1, row(3, 0, 1), row(2, 1, 2)), example(), api.OK)
	checkWins(t, example(), 3, []int{2, 1, 0}, api.OK)
}

func TestOfRankings(t *testing.T) {
	for _, c := range []struct {
		rows []api.Row
		want api.Pairs
	}{
		{[]api.Row{row(1, 0, 1, 2)}, matrix([]int{0, 1, 1}, []int{0, 0, 1})},
		{[]api.Row{row(1, 2, 1, 0)}, matrix(nil, []int{1}, []int{1, 1})},
		{[]api.Row{row(7, 1)}, matrix(nil, []int{7, 0, 7})},
		{[]api.Row{row(7, 2, 0)}, matrix([]int{0, 7}, nil, []int{7, 7})},
		{[]api.Row{row(7)}, api.Pairs{}},
		{[]api.Row{row(5), row(1, 0)}, matrix([]int{0, 1, 1})},
		{[]api.Row{row(1, 0), row(10, 1), row(100, 2)}, matrix([]int{0, 1, 1}, []int{10, 0, 10}, []int{100, 100})},
		{[]api.Row{row(1, 0, 1, 2), row(10, 0, 2, 1), row(100, 1, 0, 2), row(1000, 1, 2, 0), row(10000, 2, 0, 1), row(100000, 2, 1, 0)}, matrix([]int{0, 10011, 111}, []int{101100, 0, 1101}, []int{111000, 110010})},
	} {
		checkOf(t, of(3, 1, c.rows...), c.want, api.OK)
	}
}

func TestOfApprovals(t *testing.T) {
	for _, c := range []struct {
		rows []api.Row
		want api.Pairs
	}{
		{[]api.Row{row(1, 0, 1, 2)}, api.Pairs{}},
		{[]api.Row{row(7)}, api.Pairs{}},
		{[]api.Row{row(1, 0, 1)}, matrix([]int{0, 0, 1}, []int{0, 0, 1})},
		{[]api.Row{row(7, 1)}, matrix(nil, []int{7, 0, 7})},
		{[]api.Row{row(7, 0, 2)}, matrix([]int{0, 7}, nil, []int{0, 7})},
		{[]api.Row{row(5), row(1, 0), row(10, 0, 1), row(100, 1, 2), row(1000, 2)}, matrix([]int{0, 1, 11}, []int{100, 0, 10}, []int{1100, 1000})},
	} {
		checkOf(t, of(3, 2, c.rows...), c.want, api.OK)
	}
}

func TestOfScores(t *testing.T) {
	for _, c := range []struct {
		rows []api.Row
		want api.Pairs
	}{
		{[]api.Row{row(1, 0, 0, 0)}, api.Pairs{}},
		{[]api.Row{row(1, 10, 10, 10)}, api.Pairs{}},
		{[]api.Row{row(7, 0, 10, 9)}, matrix(nil, []int{7, 0, 7}, []int{7})},
		{[]api.Row{row(7, 1, 0, 1)}, matrix([]int{0, 7}, nil, []int{0, 7})},
		{[]api.Row{row(1, 0, 0, 1), row(10, 3, 2, 2), row(100, 3, 4, 3), row(1000, 10, 0, 5)}, matrix([]int{0, 1010, 1010}, []int{100, 0, 100}, []int{1, 1001})},
	} {
		checkOf(t, of(3, 3, c.rows...), c.want, api.OK)
	}
}

func TestOfNoRowsAndOfBlankBallots(t *testing.T) {
	for cands := 1; cands <= 10; cands++ {
		for kind := uint8(1); kind <= 3; kind++ {
			for _, rows := range [][]api.Row{nil, {}, make([]api.Row, 0, 7)} {
				checkOf(t, of(cands, kind, rows...), api.Pairs{}, api.OK)
			}
		}
		for kind := uint8(1); kind <= 2; kind++ {
			for _, none := range [][]int{nil, {}, upTo(3)[:0]} {
				checkOf(t, of(cands, kind, api.Row{Marks: none, Many: 1}), api.Pairs{}, api.OK)
				checkOf(t, of(cands, kind, api.Row{Marks: none, Many: 1000000}), api.Pairs{}, api.OK)
			}
		}
		checkOf(t, of(cands, 3, api.Row{Marks: make([]int, cands), Many: 1000000}), api.Pairs{}, api.OK)
	}
}

// A candidate who is not there is preferred to nobody, nor is anybody preferred to one.
func TestOfFewAndManyCandidates(t *testing.T) {
	for cands := 1; cands <= 10; cands++ {
		checkOf(t, chain(cands, 1), ladder(cands, 1), api.OK)
		checkOf(t, chain(cands, 1000000), ladder(cands, 1000000), api.OK)
		for c := range cands {
			var want api.Pairs
			for y := range cands {
				if y != c {
					want[c][y] = 9
				}
			}
			scores := make([]int, cands)
			scores[c] = 1
			checkOf(t, of(cands, 1, row(9, c)), want, api.OK)
			checkOf(t, of(cands, 2, row(9, c)), want, api.OK)
			checkOf(t, of(cands, 3, row(9, scores...)), want, api.OK)
		}
	}
	checkOf(t, of(1, 1, row(5), row(4, 0)), api.Pairs{}, api.OK)
	checkOf(t, of(1, 2, row(5), row(4, 0)), api.Pairs{}, api.OK)
	checkOf(t, of(1, 3, row(5, 0), row(4, 10)), api.Pairs{}, api.OK)
}

// fullProfile returns the profile of 64 rankings of two candidates of ten, and of so many ballots in all.
func fullProfile(many int) api.Profile {
	p := of(10, 1)
	for i := range 10 {
		for j := range 10 {
			if i != j && len(p.Rows) < 64 {
				p.Rows = append(p.Rows, row(1, i, j))
			}
		}
	}
	p.Rows[20].Many = many - 63
	return p
}

func TestOfFullProfiles(t *testing.T) {
	for _, many := range []int{64, 100, 1000000} {
		want, _ := modelOf(fullProfile(many))
		checkOf(t, fullProfile(many), want, api.OK)
	}
	m, e := pairs.Of(fullProfile(1000000))
	// The nine rows that start with 2 hold 999,945 ballots, any other one. Six rows have 2 behind another, and five of these others are not 3.
	if m[2][9] != 999945+6 || m[2][3] != 999945+5 || m[9][2] != 6 || m[0][9] != 9+7 || m[8][9] != 7 || m[7][9] != 7+1 || e != api.OK {
		t.Errorf("the entries are %v, error %d", m, int(e))
	}
	for _, rows := range [][]api.Row{{row(500000, 0, 1), row(500000, 1, 0)}, {row(1, 0, 1), row(999999, 1, 0)}} {
		checkOf(t, of(2, 1, rows...), matrix([]int{0, rows[0].Many}, []int{rows[1].Many}), api.OK)
	}
}

// wrongProfiles are not valid, with the errors that profile.Check has for them.
func wrongProfiles() map[api.Errno][]api.Profile {
	return map[api.Errno][]api.Profile{
		api.ErrFull: {of(10, 1, append(fullProfile(64).Rows, row(1, 9))...), of(0, 1, make([]api.Row, 65)...), of(3, 9, slices.Repeat([]api.Row{row(math.MaxInt, 7, 7)}, 65)...)},
		api.ErrBad: {{}, of(0, 1), of(11, 1), of(-1, 1), of(3, 0), of(3, 4), of(3, 255), of(3, 1, row(0)), of(3, 1, row(-1, 1)), of(3, 1, row(1, 3)), of(3, 1, row(1, 1, 1)), of(3, 1, row(1, -1)), of(3, 1, row(1, 1), row(1, 0)),
			of(3, 1, row(1), row(1)), of(3, 2, row(1, 1, 0)), of(3, 3, row(1, 0, 0)), of(3, 3, row(1)), of(3, 3, row(1, 0, 11, 0)), of(3, 1, row(1000001, 0, 0)), of(3, 1, row(1000001, 1), row(1, 0)), of(math.MaxInt, 1)},
		api.ErrMany: {of(3, 1, row(1000001)), of(3, 1, row(math.MaxInt, 1), row(math.MaxInt, 2)), fullProfile(1000001), of(3, 2, row(999999), row(2, 0)), of(1, 3, row(1<<32, 7))},
	}
}

func TestOfWrongProfiles(t *testing.T) {
	for e, profiles := range wrongProfiles() {
		for _, p := range profiles {
			if profile.Check(p) != e {
				t.Errorf("%s has error %d; want %d", show(p), int(profile.Check(p)), int(e))
			}
			checkOf(t, p, api.Pairs{}, e)
		}
	}
}

func TestOfRandomProfiles(t *testing.T) {
	random := rand.New(rand.NewSource(121))
	seen := map[api.Errno]int{}
	for range 20000 {
		p := randomProfile(random)
		for range random.Intn(2) {
			p = spoiltProfile(random, p)
		}
		want, wantE := modelOf(p)
		checkOf(t, p, want, wantE)
		if seen[wantE]++; wantE == api.OK && !pairs.Right(want, p.Cands) {
			t.Errorf("the matrix of %s is not right: %v", show(p), want)
		}
	}
	if seen[api.OK] < 10000 || seen[api.ErrBad] < 1000 || seen[api.ErrMany] < 100 || seen[api.ErrFull] < 100 {
		t.Errorf("the profiles have the errors %v", seen)
	}
}

// P10.1: Right

func checkRight(t *testing.T, m api.Pairs, cands int, want bool) {
	t.Helper()
	if right := pairs.Right(m, cands); right != want {
		t.Errorf("Right(%v, %d) = %v", m, cands, right)
	}
}

func TestRightOfCands(t *testing.T) {
	for _, cands := range append(wilds(), -2, 3, 4, 5, 6, 7, 8, 12) {
		among := cands >= 1 && cands <= 10
		checkRight(t, api.Pairs{}, cands, among)
		checkRight(t, example(), cands, among && cands >= 3)
		for n := 2; n <= 10; n++ {
			checkRight(t, every(n, 500000), cands, among && cands >= n)
			checkRight(t, ladder(n, 1000000), cands, among && cands >= n)
		}
	}
}

// Each entry counts, wherever it is, among any number of candidates.
func TestRightOfOneEntry(t *testing.T) {
	for cands := 1; cands <= 10; cands++ {
		for x := range 10 {
			for y := range 10 {
				for _, n := range wilds() {
					inside := x != y && x < cands && y < cands
					checkRight(t, with(api.Pairs{}, x, y, n), cands, n == 0 || inside && n > 0 && n <= 1000000)
					checkRight(t, with(every(cands, 7), x, y, n), cands, inside && n >= 0 && n <= 999993 || !inside && n == 0)
				}
			}
		}
	}
}

func TestRightOfTwoEntries(t *testing.T) {
	for _, c := range []struct {
		a, b int
		want bool
	}{
		{1000000, 0, true}, {0, 1000000, true}, {999999, 1, true}, {1, 999999, true}, {500000, 500000, true}, {3, 2, true},
		{1000001, 0, false}, {1000000, 1, false}, {1, 1000000, false}, {500000, 500001, false}, {500001, 500000, false}, {1000000, 1000000, false},
		{math.MaxInt, 0, false}, {math.MaxInt, 1, false}, {math.MaxInt, math.MaxInt, false}, {math.MaxInt, 2, false}, {1 << 62, 1 << 62, false}, {math.MaxInt - 1000000, 1, false}, {1, math.MaxInt, false}, {math.MaxInt, 1000000, false},
		{1000001, -1, false}, {-1, 1, false}, {-1, -1, false}, {-5, 10, false}, {math.MinInt, 0, false}, {math.MinInt, math.MinInt, false}, {math.MinInt, math.MaxInt, false}, {math.MaxInt, math.MinInt, false}, {math.MaxInt, -1, false},
		{1 << 32, 0, false}, {1 << 32, 1 << 32, false}, {1<<32 - 1, 1, false}, {1 << 31, 1 << 31, false}, {math.MinInt + 1000000, 5, false}, {2000000, -1000000, false}, {-1000000, 2000000, false},
	} {
		for x := range 10 {
			for y := range x {
				for cands := 1; cands <= 10; cands++ {
					m := with(with(api.Pairs{}, x, y, c.a), y, x, c.b)
					checkRight(t, m, cands, c.want && x < cands)
					m = with(with(every(cands, 500000), x, y, c.a), y, x, c.b)
					checkRight(t, m, cands, c.want && x < cands)
				}
			}
		}
	}
}

// randomMatrices calls f with matrices that are valid among so many candidates, and with others.
func randomMatrices(seed int64, many int, f func(random *rand.Rand, m api.Pairs, cands int)) {
	random := rand.New(rand.NewSource(seed))
	for range many {
		cands := 1 + random.Intn(10)
		m := randomMatrix(random, cands)
		for range random.Intn(3) / 2 {
			m = spoiltMatrix(random, m)
		}
		f(random, m, cands)
	}
}

func TestRightOfRandomMatrices(t *testing.T) {
	seen := map[bool]int{}
	randomMatrices(122, 10000, func(random *rand.Rand, m api.Pairs, cands int) {
		for _, n := range []int{cands, cands - 1, cands + 1, random.Intn(13) - 1, 10} {
			want := modelRight(m, n)
			checkRight(t, m, n, want)
			seen[want]++
		}
	})
	if seen[true] < 10000 || seen[false] < 10000 {
		t.Errorf("so many matrices are right, and so many not: %v", seen)
	}
}

// P10.1: Margin and Beats

func checkMargin(t *testing.T, m api.Pairs, x, y, want int) {
	t.Helper()
	if margin := pairs.Margin(m, x, y); margin != want {
		t.Errorf("Margin(%v, %d, %d) = %d; want %d", m, x, y, margin, want)
	}
	if beats := pairs.Beats(m, x, y); beats != (want > 0) {
		t.Errorf("Beats(%v, %d, %d) = %v, with a margin of %d", m, x, y, beats, want)
	}
}

func TestMargin(t *testing.T) {
	m := example()
	for _, c := range []struct{ x, y, want int }{{0, 1, 1}, {1, 0, -1}, {0, 2, 1}, {2, 0, -1}, {1, 2, 5}, {2, 1, -5}, {0, 0, 0}, {1, 1, 0}, {2, 2, 0}, {0, 3, 0}, {3, 0, 0}, {9, 9, 0}, {0, 9, 0}} {
		checkMargin(t, m, c.x, c.y, c.want)
	}
	for x := range 10 {
		for y := range 10 {
			if x != y {
				checkMargin(t, with(api.Pairs{}, x, y, 1000000), x, y, 1000000)
				checkMargin(t, with(api.Pairs{}, x, y, 1000000), y, x, -1000000)
				checkMargin(t, with(with(api.Pairs{}, x, y, 7), y, x, 4), x, y, 3)
				checkMargin(t, with(with(api.Pairs{}, x, y, 7), y, x, 7), x, y, 0)
				checkMargin(t, with(every(10, 400000), x, y, 400001), x, y, 1)
				checkMargin(t, with(every(10, 400000), x, y, 399999), x, y, -1)
			}
			checkMargin(t, every(10, 3), x, y, 0)
		}
	}
}

func TestMarginOfNoCandidates(t *testing.T) {
	m := ladder(10, 5)
	for _, wild := range append(wilds(), 12, -2, 1<<32+9, -1<<32+3, 1<<8, 1<<16+1) {
		for x := -1; x <= 10; x++ {
			for _, c := range [][2]int{{x, wild}, {wild, x}, {wild, wild}} {
				checkMargin(t, m, c[0], c[1], modelMargin(m, c[0], c[1]))
				if min(c[0], c[1]) < 0 || max(c[0], c[1]) > 9 {
					checkMargin(t, m, c[0], c[1], 0)
				}
			}
		}
	}
}

// A matrix that is wrong at one place has no margin anywhere.
func TestMarginOfWrongMatrices(t *testing.T) {
	for x := range 10 {
		for y := range 10 {
			for _, wrong := range []int{-1, 1000001, 999996, math.MaxInt, math.MinInt} {
				if x == y && wrong == 999996 {
					wrong = 1
				}
				m := ladder(10, 5)
				if x < y {
					m[y][x] = 5
				}
				m[x][y] = wrong
				for _, c := range [][2]int{{0, 1}, {8, 9}, {2, 7}, {7, 2}, {x, y}, {y, x}} {
					checkMargin(t, m, c[0], c[1], 0)
				}
			}
		}
	}
}

func TestMarginOfRandomMatrices(t *testing.T) {
	seen := map[int]int{}
	randomMatrices(123, 5000, func(random *rand.Rand, m api.Pairs, cands int) {
		for range 10 {
			x, y := random.Intn(12)-1, random.Intn(12)-1
			want := modelMargin(m, x, y)
			checkMargin(t, m, x, y, want)
			seen[max(-1, min(want, 1))]++
		}
	})
	if seen[-1] < 1000 || seen[0] < 1000 || seen[1] < 1000 {
		t.Errorf("margins are negative, 0 and positive: %v", seen)
	}
}
