package pairs_test

import (
	"math"
	"math/rand"
	"slices"
	"testing"

	"suffrage/api"
	"suffrage/pairs"
)

// P10.2: Sum

func checkSum(t *testing.T, a, b, want api.Pairs, wantE api.Errno) {
	t.Helper()
	if sum, e := pairs.Sum(a, b); sum != want || e != wantE {
		t.Errorf("Sum(%v, %v) = %v, %d; want %v, %d", a, b, sum, int(e), want, int(wantE))
	}
}

func TestSum(t *testing.T) {
	checkSum(t, example(), matrix([]int{0, 1}, []int{0, 0, 7}, []int{20, 0, 0}), matrix([]int{0, 4, 3}, []int{2, 0, 12}, []int{22, 0, 0}), api.OK)
	checkSum(t, example(), api.Pairs{}, example(), api.OK)
	checkSum(t, api.Pairs{}, example(), example(), api.OK)
	checkSum(t, api.Pairs{}, api.Pairs{}, api.Pairs{}, api.OK)
	checkSum(t, example(), example(), matrix([]int{0, 6, 6}, []int{4, 0, 10}, []int{4, 0, 0}), api.OK)
	checkSum(t, ladder(10, 3), pairs.Turn(ladder(10, 3)), every(10, 3), api.OK)
	checkSum(t, every(3, 1), every(10, 5), modelSumOf(every(3, 1), every(10, 5)), api.OK)
}

// modelSumOf returns the sum of two matrices that have one.
func modelSumOf(a, b api.Pairs) api.Pairs {
	sum, _ := modelSum(a, b)
	return sum
}

func TestSumAtTheLimit(t *testing.T) {
	checkSum(t, every(10, 250000), every(10, 250000), every(10, 500000), api.OK)
	checkSum(t, every(10, 500000), api.Pairs{}, every(10, 500000), api.OK)
	checkSum(t, ladder(10, 1000000), ladder(10, 1000000), api.Pairs{}, api.ErrMany)
	checkSum(t, every(10, 500000), every(10, 500000), api.Pairs{}, api.ErrMany)
	for x := range 10 {
		for y := range 10 {
			if x == y {
				continue
			}
			for _, c := range []struct {
				a, backA, b, backB int
				want               api.Errno
			}{
				{1000000, 0, 0, 0, api.OK}, {0, 0, 1000000, 0, api.OK}, {999999, 0, 1, 0, api.OK}, {999999, 0, 0, 1, api.OK}, {250000, 250000, 250000, 250000, api.OK}, {0, 600000, 400000, 0, api.OK},
				{1000000, 0, 1, 0, api.ErrMany}, {1000000, 0, 0, 1, api.ErrMany}, {0, 1000000, 0, 1, api.ErrMany}, {250000, 250000, 250000, 250001, api.ErrMany}, {0, 600000, 400001, 0, api.ErrMany}, {1000000, 0, 0, 1000000, api.ErrMany}, {1000000, 0, 1000000, 0, api.ErrMany},
			} {
				a := with(with(every(10, 1), x, y, c.a), y, x, c.backA)
				b := with(with(every(10, 2), x, y, c.b), y, x, c.backB)
				want := with(with(every(10, 3), x, y, c.a+c.b), y, x, c.backA+c.backB)
				if c.want != api.OK {
					want = api.Pairs{}
				}
				checkSum(t, a, b, want, c.want)
				checkSum(t, b, a, want, c.want)
			}
		}
	}
}

// wrongMatrices are not valid among any number of candidates.
func wrongMatrices() []api.Pairs {
	l := []api.Pairs{every(10, 500001), every(2, 1000000), every(10, math.MaxInt), every(10, math.MinInt), every(10, -1), with(api.Pairs{}, 0, 0, 1), with(api.Pairs{}, 9, 9, 1), with(api.Pairs{}, 0, 0, -1), with(example(), 2, 2, 1000000)}
	for x := range 10 {
		for y := range 10 {
			l = append(l, with(example(), x, y, -1), with(example(), x, y, 1000001), with(every(10, 5), x, y, []int{math.MaxInt, math.MinInt, 999996, 1 << 62}[(x+y)%4]), with(ladder(10, 1), x, x, 1+y))
		}
	}
	return slices.DeleteFunc(l, func(m api.Pairs) bool { return modelRight(m, 10) }) // 999,996 beside 5 may be none of the diagonal's
}

func TestSumOfWrongMatrices(t *testing.T) {
	l := wrongMatrices()
	if len(l) < 400 {
		t.Errorf("%d matrices are wrong", len(l))
	}
	for i, m := range l {
		for _, other := range []api.Pairs{{}, example(), every(10, 500000), ladder(10, 1000000)} {
			checkSum(t, m, other, api.Pairs{}, api.ErrBad)
			checkSum(t, other, m, api.Pairs{}, api.ErrBad)
		}
		checkSum(t, m, m, api.Pairs{}, api.ErrBad)
		checkSum(t, m, l[(i*7+3)%len(l)], api.Pairs{}, api.ErrBad)
	}
	// The entries of these two would cancel each other.
	checkSum(t, with(example(), 0, 1, -1), with(example(), 0, 1, 1), api.Pairs{}, api.ErrBad)
	checkSum(t, with(api.Pairs{}, 3, 3, 1), with(api.Pairs{}, 3, 3, -1), api.Pairs{}, api.ErrBad)
	checkSum(t, with(api.Pairs{}, 0, 1, math.MaxInt), with(api.Pairs{}, 0, 1, math.MinInt), api.Pairs{}, api.ErrBad)
	checkSum(t, with(api.Pairs{}, 0, 1, math.MinInt), with(api.Pairs{}, 0, 1, math.MinInt), api.Pairs{}, api.ErrBad)
	checkSum(t, with(api.Pairs{}, 0, 1, 1000001), with(api.Pairs{}, 0, 1, -1), api.Pairs{}, api.ErrBad)
}

func TestSumOfRandomMatrices(t *testing.T) {
	seen := map[api.Errno]int{}
	randomMatrices(124, 20000, func(random *rand.Rand, m api.Pairs, cands int) {
		other := randomMatrix(random, 1+random.Intn(10))
		if random.Intn(5) == 0 {
			other = spoiltMatrix(random, other)
		}
		want, wantE := modelSum(m, other)
		checkSum(t, m, other, want, wantE)
		seen[wantE]++
	})
	if seen[api.OK] < 1000 || seen[api.ErrBad] < 1000 || seen[api.ErrMany] < 1000 {
		t.Errorf("the sums have the errors %v", seen)
	}
}

// P10.2: Turn

func checkTurn(t *testing.T, m, want api.Pairs) {
	t.Helper()
	if turned := pairs.Turn(m); turned != want {
		t.Errorf("Turn(%v) = %v; want %v", m, turned, want)
	}
	if again := pairs.Turn(want); again != m {
		t.Errorf("Turn of the turned %v is %v", m, again)
	}
}

func TestTurn(t *testing.T) {
	checkTurn(t, api.Pairs{}, api.Pairs{})
	checkTurn(t, example(), matrix([]int{0, 2, 2}, []int{3, 0, 0}, []int{3, 5, 0}))
	checkTurn(t, every(10, 4), every(10, 4))
	for x := range 10 {
		for y := range 10 {
			for _, n := range wilds() {
				checkTurn(t, with(api.Pairs{}, x, y, n), with(api.Pairs{}, y, x, n))
				checkTurn(t, with(every(10, -7), x, y, n), with(every(10, -7), y, x, n))
			}
		}
	}
	for _, m := range wrongMatrices() {
		checkTurn(t, m, modelTurn(m))
	}
}

func TestTurnOfRandomMatrices(t *testing.T) {
	random := rand.New(rand.NewSource(125))
	for range 2000 {
		var m api.Pairs
		for x := range 10 {
			for y := range 10 {
				m[x][y] = int(random.Uint64())
			}
		}
		checkTurn(t, m, modelTurn(m))
	}
}

// P10.2: Rename

func checkRename(t *testing.T, m api.Pairs, perm []int, want api.Pairs, wantE api.Errno) {
	t.Helper()
	if renamed, e := pairs.Rename(m, perm); renamed != want || e != wantE {
		t.Errorf("Rename(%v, %v) = %v, %d; want %v, %d", m, perm, renamed, int(e), want, int(wantE))
	}
}

func TestRename(t *testing.T) {
	m := matrix([]int{0, 1, 2}, []int{10, 0, 12}, []int{20, 21, 0})
	checkRename(t, m, []int{0, 1, 2}, m, api.OK)
	checkRename(t, m, []int{1, 2, 0}, matrix([]int{0, 20, 21}, []int{2, 0, 1}, []int{12, 10, 0}), api.OK)
	checkRename(t, m, []int{2, 0, 1}, matrix([]int{0, 12, 10}, []int{21, 0, 20}, []int{1, 2, 0}), api.OK)
	checkRename(t, m, []int{1, 0, 2}, matrix([]int{0, 10, 12}, []int{1, 0, 2}, []int{21, 20, 0}), api.OK)
	checkRename(t, m, []int{0, 1, 3, 2}, matrix([]int{0, 1, 0, 2}, []int{10, 0, 0, 12}, nil, []int{20, 21}), api.OK)
	checkRename(t, m, []int{9, 8, 7, 6, 5, 4, 3, 2, 1, 0}, with(with(with(with(with(with(api.Pairs{}, 9, 8, 1), 9, 7, 2), 8, 9, 10), 8, 7, 12), 7, 9, 20), 7, 8, 21), api.OK)
	checkRename(t, api.Pairs{}, []int{0}, api.Pairs{}, api.OK)
	for n := 1; n <= 10; n++ {
		down := upTo(n)
		slices.Reverse(down)
		checkRename(t, ladder(n, 1000000), down, pairs.Turn(ladder(n, 1000000)), api.OK)
		checkRename(t, every(n, 500000), down, every(n, 500000), api.OK)
		checkRename(t, api.Pairs{}, down, api.Pairs{}, api.OK)
	}
}

// wrongPerms are no permutations of up to ten numbers.
func wrongPerms() [][]int {
	l := [][]int{nil, {}, upTo(3)[:0], {1}, {-1}, {10}, {0, 0}, {1, 1}, {1, 2}, {0, 2}, {-1, 0}, {0, 1, 1}, {0, 1, 3}, {2, 1, 2}, {0, 1, -1}, {0, 1, math.MaxInt}, {math.MinInt, 0, 1}, {0, 1, 1 << 32}, {1 << 32, 1, 2}, {0, 257, 2}, {256, 1, 2}, {3, 1, 2}, upTo(11), upTo(12), make([]int, 10), upTo(1000)}
	for at := range 10 {
		for _, wrong := range []int{-1, 10, (at + 1) % 10, math.MaxInt, math.MinInt, at + 1<<32} {
			perm := upTo(10)
			perm[at] = wrong
			l = append(l, perm)
		}
	}
	return l
}

func TestRenameWithWrongPermutations(t *testing.T) {
	for _, perm := range wrongPerms() {
		checkRename(t, api.Pairs{}, perm, api.Pairs{}, api.ErrArg)
		checkRename(t, example(), perm, api.Pairs{}, api.ErrArg)
		checkRename(t, every(10, 5), perm, api.Pairs{}, api.ErrArg)
		checkRename(t, every(10, -5), perm, api.Pairs{}, api.ErrArg)
	}
}

func TestRenameOfWrongMatrices(t *testing.T) {
	for _, m := range wrongMatrices() {
		for n := 1; n <= 10; n++ {
			checkRename(t, m, upTo(n), api.Pairs{}, api.ErrBad)
		}
	}
	for n := 1; n <= 10; n++ {
		for cands := n + 1; cands <= 10; cands++ {
			checkRename(t, ladder(cands, 1), upTo(n), api.Pairs{}, api.ErrBad)
			checkRename(t, with(api.Pairs{}, n, 0, 1), upTo(n), api.Pairs{}, api.ErrBad)
			checkRename(t, with(api.Pairs{}, 0, cands-1, 1), upTo(n), api.Pairs{}, api.ErrBad)
		}
		checkRename(t, ladder(n, 1), upTo(10), ladder(n, 1), api.OK)
	}
	checkRename(t, example(), []int{1, 0}, api.Pairs{}, api.ErrBad)
	checkRename(t, example(), []int{0}, api.Pairs{}, api.ErrBad)
}

func TestRenameOfRandomMatrices(t *testing.T) {
	seen := map[api.Errno]int{}
	randomMatrices(126, 20000, func(random *rand.Rand, m api.Pairs, cands int) {
		perm := random.Perm(min(10, cands+random.Intn(3)/2))
		switch random.Intn(6) {
		case 0:
			perm[random.Intn(len(perm))] = random.Intn(12) - 1
		case 1:
			perm = random.Perm(random.Intn(12))
		}
		want, wantE := modelRename(m, perm)
		checkRename(t, m, perm, want, wantE)
		seen[wantE]++
	})
	if seen[api.OK] < 5000 || seen[api.ErrBad] < 1000 || seen[api.ErrArg] < 1000 {
		t.Errorf("the errors are %v", seen)
	}
}

// P10.2: Wins

func checkWins(t *testing.T, m api.Pairs, cands int, want []int, wantE api.Errno) {
	t.Helper()
	if wins, e := pairs.Wins(m, cands); !slices.Equal(wins, want) || e != wantE {
		t.Errorf("Wins(%v, %d) = %v, %d; want %v, %d", m, cands, wins, int(e), want, int(wantE))
	}
}

func TestWins(t *testing.T) {
	checkWins(t, example(), 4, []int{2, 1, 0, 0}, api.OK)
	checkWins(t, pairs.Turn(example()), 3, []int{0, 1, 2}, api.OK)
	checkWins(t, matrix([]int{0, 5, 3}, []int{2, 0, 4}, []int{4, 1, 0}), 3, []int{1, 1, 1}, api.OK)
	checkWins(t, matrix([]int{0, 1, 3}, []int{1, 0, 4}, []int{4, 5, 0}), 3, []int{0, 0, 2}, api.OK)
	for n := 1; n <= 10; n++ {
		down := upTo(n)
		slices.Reverse(down)
		checkWins(t, api.Pairs{}, n, make([]int, n), api.OK)
		checkWins(t, every(n, 1), n, make([]int, n), api.OK)
		checkWins(t, every(n, 500000), n, make([]int, n), api.OK)
		checkWins(t, ladder(n, 1), n, down, api.OK)
		checkWins(t, pairs.Turn(ladder(n, 1000000)), n, upTo(n), api.OK)
		checkWins(t, ladder(n, 1), 10, append(slices.Clone(down), make([]int, 10-n)...), api.OK)
	}
	for x := range 10 {
		for y := range 10 {
			if x != y {
				want := make([]int, 10)
				want[x] = 1
				checkWins(t, with(api.Pairs{}, x, y, 1), 10, want, api.OK)
				checkWins(t, with(every(10, 7), x, y, 8), 10, want, api.OK)
			}
		}
	}
}

func TestWinsOfCands(t *testing.T) {
	for _, cands := range append(wilds(), -2, 3, 4, 12, 1<<32+3, 1<<8+3) {
		for _, m := range []api.Pairs{{}, example(), every(10, 5), every(10, -5)} {
			want, wantE := modelWins(m, cands)
			checkWins(t, m, cands, want, wantE)
			if cands < 1 || cands > 10 {
				checkWins(t, m, cands, nil, api.ErrArg)
			}
		}
	}
}

func TestWinsOfWrongMatrices(t *testing.T) {
	for _, m := range wrongMatrices() {
		for n := 1; n <= 10; n++ {
			checkWins(t, m, n, nil, api.ErrBad)
		}
	}
	for n := 1; n <= 10; n++ {
		for cands := n + 1; cands <= 10; cands++ {
			checkWins(t, ladder(cands, 1), n, nil, api.ErrBad)
			checkWins(t, with(api.Pairs{}, n, 0, 1), n, nil, api.ErrBad)
			checkWins(t, with(api.Pairs{}, 0, cands-1, 1), n, nil, api.ErrBad)
		}
	}
	checkWins(t, example(), 2, nil, api.ErrBad)
	checkWins(t, example(), 1, nil, api.ErrBad)
}

func TestWinsOfRandomMatrices(t *testing.T) {
	seen := map[api.Errno]int{}
	randomMatrices(127, 20000, func(random *rand.Rand, m api.Pairs, cands int) {
		if random.Intn(4) == 0 {
			cands = random.Intn(14) - 2
		}
		want, wantE := modelWins(m, cands)
		checkWins(t, m, cands, want, wantE)
		seen[wantE]++
	})
	if seen[api.OK] < 5000 || seen[api.ErrBad] < 1000 || seen[api.ErrArg] < 500 {
		t.Errorf("the errors are %v", seen)
	}
}
