package ranked_test

import (
	"cmp"
	"math"
	"math/rand"
	"slices"
	"testing"

	"suffrage/api"
	"suffrage/pairs"
	"suffrage/ranked"
)

// P14.1: Order, and the arguments of Order and Lock

// matrix returns the matrix with these entries in its first rows and columns.
func matrix(rows ...[]int) api.Pairs {
	var m api.Pairs
	for x, r := range rows {
		copy(m[x][:], r)
	}
	return m
}

// with returns m with another entry at [x][y].
func with(m api.Pairs, x, y, entry int) api.Pairs {
	m[x][y] = entry
	return m
}

// every returns a matrix with one entry for all pairs of different candidates.
func every(cands, entry int) api.Pairs {
	var m api.Pairs
	for x := range cands {
		for _, y := range others(cands, x) {
			m[x][y] = entry
		}
	}
	return m
}

// ladder returns the matrix in which each candidate beats all that come later.
func ladder(cands, entry int) api.Pairs {
	var m api.Pairs
	for x := range cands {
		for y := range x {
			m[y][x] = entry
		}
	}
	return m
}

// ring returns the matrix with links of these margins from each candidate to the next one, the last of them from the last candidate to 0.
func ring(margins ...int) api.Pairs {
	var m api.Pairs
	for x, n := range margins {
		m[x][(x+1)%len(margins)] = n
	}
	return m
}

// linking returns the matrix with the links alone: For in their direction, and so many less in the other that the margin is theirs.
func linking(l ...api.Link) api.Pairs {
	var m api.Pairs
	for _, k := range l {
		m[k.From][k.To], m[k.To][k.From] = k.For, k.For-k.Margin
	}
	return m
}

func checkOrder(t *testing.T, m api.Pairs, lot []int, want ...api.Link) {
	t.Helper()
	if l, e := ranked.Order(m, len(lot), lot); !slices.Equal(l, want) || e != api.OK {
		t.Errorf("the links of %v, lot %v, are %v, %d; want %v", m, lot, l, int(e), want)
	}
	if l, e := modelOrder(m, len(lot), lot); !slices.Equal(l, want) || e != api.OK {
		t.Errorf("the model's links of %v, lot %v, are %v, %d; want %v", m, lot, l, int(e), want)
	}
}

func checkLock(t *testing.T, m api.Pairs, lot []int, want ...api.Link) {
	t.Helper()
	if l, e := ranked.Lock(m, len(lot), lot); !slices.Equal(l, want) || e != api.OK {
		t.Errorf("the locked links of %v, lot %v, are %v, %d; want %v", m, lot, l, int(e), want)
	}
	if l, e := modelLock(m, len(lot), lot); !slices.Equal(l, want) || e != api.OK {
		t.Errorf("the model's locked links of %v, lot %v, are %v, %d; want %v", m, lot, l, int(e), want)
	}
}

// checkWrong asserts the error of both functions.
func checkWrong(t *testing.T, m api.Pairs, cands int, lot []int, want api.Errno) {
	t.Helper()
	if l, e := ranked.Order(m, cands, lot); len(l) > 0 || e != want {
		t.Errorf("the links of %v among %d, lot %v, are %v, %d; want nothing, %d", m, cands, lot[:min(len(lot), 50)], l, int(e), int(want))
	}
	if l, e := ranked.Lock(m, cands, lot); len(l) > 0 || e != want {
		t.Errorf("the locked links of %v among %d, lot %v, are %v, %d; want nothing, %d", m, cands, lot[:min(len(lot), 50)], l, int(e), int(want))
	}
}

// checkModel holds both functions against the model.
func checkModel(t *testing.T, m api.Pairs, cands int, lot []int) (order, locks []api.Link, e api.Errno) {
	t.Helper()
	order, e = ranked.Order(m, cands, lot)
	if want, wantE := modelOrder(m, cands, lot); !slices.Equal(order, want) || e != wantE {
		t.Errorf("the links of %v among %d, lot %v, are %v, %d; want %v, %d", m, cands, lot, order, int(e), want, int(wantE))
	}
	locks, e = ranked.Lock(m, cands, lot)
	if want, wantE := modelLock(m, cands, lot); !slices.Equal(locks, want) || e != wantE {
		t.Errorf("the locked links of %v among %d, lot %v, are %v, %d; want %v, %d", m, cands, lot, locks, int(e), want, int(wantE))
	}
	return order, locks, e
}

// theMatrix is the matrix of the document's example.
func theMatrix() api.Pairs { return matrix([]int{0, 5, 3}, []int{2, 0, 5}, []int{4, 2, 0}) }

func TestLinksOfTheExample(t *testing.T) {
	if m, e := pairs.Of(theExample()); m != theMatrix() || e != api.OK {
		t.Fatalf("the matrix is %v, %d", m, int(e))
	}
	checkOrder(t, theMatrix(), []int{2, 1, 0}, link(1, 2, 3, 5), link(0, 1, 3, 5), link(2, 0, 1, 4))
	checkLock(t, theMatrix(), []int{2, 1, 0}, link(1, 2, 3, 5), link(0, 1, 3, 5))
	checkOrder(t, theMatrix(), []int{0, 1, 2}, link(0, 1, 3, 5), link(1, 2, 3, 5), link(2, 0, 1, 4))
	checkLock(t, theMatrix(), []int{0, 1, 2}, link(0, 1, 3, 5), link(1, 2, 3, 5))
}

// The fields of a link

func TestOneLink(t *testing.T) {
	for cands := 2; cands <= 10; cands++ {
		for x := range cands {
			for _, y := range others(cands, x) {
				for _, lot := range [][]int{upTo(cands), downFrom(cands)} {
					for _, want := range []api.Link{link(x, y, 1, 1), link(x, y, 3, 3), link(x, y, 1, 500000), link(x, y, 2, 500001), link(x, y, 1000000, 1000000), link(x, y, 999998, 999999), link(x, y, 999999, 999999)} {
						checkOrder(t, linking(want), lot, want)
						checkLock(t, linking(want), lot, want)
					}
				}
			}
		}
	}
}

func TestNoLinks(t *testing.T) {
	for cands := 1; cands <= 10; cands++ {
		for _, lot := range [][]int{upTo(cands), downFrom(cands)} {
			checkOrder(t, api.Pairs{}, lot)
			checkLock(t, api.Pairs{}, lot)
			// Equal numbers in both directions are no link.
			for _, n := range []int{1, 2, 250000, 500000} {
				checkOrder(t, every(cands, n), lot)
				checkLock(t, every(cands, n), lot)
			}
		}
	}
}

// Who is just ahead has a link, and who is level has none, in one matrix.
func TestLinksAmongLevelOnes(t *testing.T) {
	m := every(10, 7)
	m[3][8], m[5][0], m[9][2] = 8, 8, 6
	checkOrder(t, m, upTo(10), link(3, 8, 1, 8), link(5, 0, 1, 8), link(2, 9, 1, 7))
	checkOrder(t, m, downFrom(10), link(5, 0, 1, 8), link(3, 8, 1, 8), link(2, 9, 1, 7))
}

// All 45 links among ten candidates, with as many ballots as there may be.
func TestAllLinks(t *testing.T) {
	for _, entry := range []int{1, 1000000} {
		for _, lot := range [][]int{upTo(10), downFrom(10), {3, 1, 4, 0, 5, 9, 2, 6, 8, 7}} {
			var want []api.Link
			for _, x := range lot {
				for _, y := range lot {
					if x < y {
						want = append(want, link(x, y, entry, entry))
					}
				}
			}
			if len(want) != 45 {
				t.Fatal(len(want))
			}
			checkOrder(t, ladder(10, entry), lot, want...)
			checkLock(t, ladder(10, entry), lot, want...)
		}
	}
}

// Entries that are just valid, and such that are not.
func TestEntriesAtTheLimit(t *testing.T) {
	for x := range 10 {
		for _, y := range others(10, x) {
			for _, c := range []struct{ n, back int }{{1000000, 0}, {999999, 1}, {500000, 500000}, {500001, 499999}, {0, 1000000}, {499999, 500001}} {
				m := with(with(every(10, 500000), x, y, c.n), y, x, c.back)
				var want []api.Link
				if c.n > c.back {
					want = []api.Link{link(x, y, c.n-c.back, c.n)}
				}
				if c.back > c.n {
					want = []api.Link{link(y, x, c.back-c.n, c.back)}
				}
				checkOrder(t, m, upTo(10), want...)
				checkLock(t, m, upTo(10), want...)
				checkWrong(t, with(m, x, y, c.n+1), 10, upTo(10), api.ErrBad)
				checkWrong(t, with(m, y, x, c.back+1), 10, upTo(10), api.ErrBad)
			}
		}
	}
}

// The order

// A greater margin comes first, also with the fewer ballots for it, and whatever the lot has.
func TestMarginComesFirst(t *testing.T) {
	for _, c := range [][2]api.Link{
		{link(0, 1, 5, 5), link(2, 3, 4, 9)},
		{link(2, 3, 5, 5), link(0, 1, 4, 9)},
		{link(3, 2, 2, 2), link(1, 0, 1, 1)},
		{link(1, 0, 2, 2), link(3, 2, 1, 500000)},
		{link(1, 3, 3, 3), link(1, 2, 2, 499999)},
		{link(2, 0, 1000000, 1000000), link(3, 1, 999999, 999999)},
		{link(0, 2, 999998, 999999), link(3, 1, 999997, 999998)},
		{link(0, 3, 10, 10), link(2, 3, 9, 10)},
	} {
		for _, lot := range lots(4) {
			checkOrder(t, linking(c[0], c[1]), lot, c[0], c[1])
		}
	}
}

// Of equal margins, the one for which there are more ballots comes first, whatever the lot has.
func TestForComesSecond(t *testing.T) {
	for _, c := range [][2]api.Link{
		{link(0, 1, 4, 6), link(2, 3, 4, 5)},
		{link(2, 3, 4, 6), link(0, 1, 4, 5)},
		{link(3, 2, 1, 500000), link(1, 0, 1, 499999)},
		{link(1, 3, 1, 2), link(1, 2, 1, 1)},
		{link(0, 3, 2, 500001), link(2, 3, 2, 2)},
		{link(3, 0, 999998, 999999), link(2, 1, 999998, 999998)},
	} {
		for _, lot := range lots(4) {
			checkOrder(t, linking(c[0], c[1]), lot, c[0], c[1])
		}
	}
}

// Of equal numbers, the one whose From comes first in the lot comes first, wherever To is.
func TestFromComesThird(t *testing.T) {
	for _, c := range [][2]api.Link{{link(0, 1, 4, 6), link(2, 3, 4, 6)}, {link(0, 3, 1, 1), link(1, 2, 1, 1)}, {link(3, 1, 2, 9), link(2, 0, 2, 9)}, {link(0, 2, 7, 7), link(1, 2, 7, 7)}, {link(3, 0, 1, 500000), link(2, 0, 1, 500000)}} {
		for _, lot := range lots(4) {
			if place(lot, c[0].From) > place(lot, c[1].From) {
				c[0], c[1] = c[1], c[0]
			}
			checkOrder(t, linking(c[0], c[1]), lot, c[0], c[1])
		}
	}
}

// Of equal numbers and the same From, the one whose To comes first in the lot comes first.
func TestToComesFourth(t *testing.T) {
	for _, c := range [][2]api.Link{{link(0, 1, 4, 6), link(0, 2, 4, 6)}, {link(3, 0, 1, 1), link(3, 2, 1, 1)}, {link(2, 3, 2, 9), link(2, 1, 2, 9)}, {link(1, 3, 1000000, 1000000), link(1, 0, 1000000, 1000000)}} {
		for _, lot := range lots(4) {
			if place(lot, c[0].To) > place(lot, c[1].To) {
				c[0], c[1] = c[1], c[0]
			}
			checkOrder(t, linking(c[0], c[1]), lot, c[0], c[1])
		}
	}
}

// The position in the lot is what matters, not the number of the candidate, and not the position of To before that of From.
func TestTheLotIsPositions(t *testing.T) {
	m := ladder(3, 2)
	checkOrder(t, m, []int{0, 1, 2}, link(0, 1, 2, 2), link(0, 2, 2, 2), link(1, 2, 2, 2))
	checkOrder(t, m, []int{0, 2, 1}, link(0, 2, 2, 2), link(0, 1, 2, 2), link(1, 2, 2, 2))
	checkOrder(t, m, []int{1, 0, 2}, link(1, 2, 2, 2), link(0, 1, 2, 2), link(0, 2, 2, 2))
	checkOrder(t, m, []int{1, 2, 0}, link(1, 2, 2, 2), link(0, 1, 2, 2), link(0, 2, 2, 2))
	checkOrder(t, m, []int{2, 0, 1}, link(0, 2, 2, 2), link(0, 1, 2, 2), link(1, 2, 2, 2))
	checkOrder(t, m, []int{2, 1, 0}, link(1, 2, 2, 2), link(0, 2, 2, 2), link(0, 1, 2, 2))
	// A lot that is not its own inverse: 2 has position 0, 0 position 1, 3 position 2 and 1 position 3.
	checkOrder(t, ring(1, 1, 1, 1), []int{2, 0, 3, 1}, link(2, 3, 1, 1), link(0, 1, 1, 1), link(3, 0, 1, 1), link(1, 2, 1, 1))
}

// All four parts in one matrix, by different lots.
func TestAllPartsOfTheOrder(t *testing.T) {
	a, b, c, d, f, g := link(4, 0, 9, 9), link(1, 2, 6, 8), link(3, 2, 6, 7), link(3, 0, 6, 7), link(2, 4, 6, 7), link(0, 1, 1, 400000)
	m := linking(g, d, f, a, c, b)
	checkOrder(t, m, []int{0, 1, 2, 3, 4}, a, b, f, d, c, g)
	checkOrder(t, m, []int{4, 3, 2, 1, 0}, a, b, c, d, f, g)
	checkOrder(t, m, []int{3, 0, 2, 4, 1}, a, b, d, c, f, g)
	checkOrder(t, m, []int{2, 3, 0, 4, 1}, a, b, f, c, d, g)
}

// The order is by each two of the links, so it is enough to hold two neighbours against each other.
func TestLinksAreInOrder(t *testing.T) {
	random := rand.New(rand.NewSource(301))
	byMargin, byFor, byFrom, byTo := 0, 0, 0, 0
	for range 3000 {
		cands := 1 + random.Intn(10)
		m, lot := randomMatrix(random, cands), random.Perm(cands)
		l := ordered(m, lot)
		beats := 0
		for x := range cands {
			for y := range cands {
				if pairs.Beats(m, x, y) {
					beats++
				}
			}
		}
		if len(l) != beats {
			t.Errorf("%v has %d links: %v", m, beats, l)
		}
		for i, k := range l {
			if k.Margin != pairs.Margin(m, k.From, k.To) || k.For != m[k.From][k.To] || k.Margin < 1 {
				t.Errorf("%v has the link %v", m, k)
			}
			if i == 0 {
				continue
			}
			before := l[i-1]
			parts := []int{cmp.Compare(k.Margin, before.Margin), cmp.Compare(k.For, before.For), cmp.Compare(place(lot, before.From), place(lot, k.From)), cmp.Compare(place(lot, before.To), place(lot, k.To))}
			switch {
			case parts[0] != 0:
				byMargin++
			case parts[1] != 0:
				byFor++
			case parts[2] != 0:
				byFrom++
			default:
				byTo++
			}
			if cmp.Or(parts...) >= 0 {
				t.Errorf("the links of %v, lot %v, are %v: %v before %v", m, lot, l, before, k)
			}
		}
	}
	if byMargin < 2000 || byFor < 1000 || byFrom < 1000 || byTo < 1000 {
		t.Errorf("the order is %d times by Margin, %d by For, %d by From, %d by To", byMargin, byFor, byFrom, byTo)
	}
}

// Wrong arguments

// wrongLots are no permutations of so many candidates.
func wrongLots(cands int) [][]int {
	l := [][]int{nil, {}, upTo(cands)[:0], upTo(cands)[:cands-1], upTo(cands + 1)[1:], upTo(cands + 1), downFrom(cands + 1), append(upTo(cands), 0), append(upTo(cands), -1), append(upTo(cands), cands-1), upTo(1000), slices.Repeat([]int{-1}, cands), slices.Repeat(upTo(cands), 2)}
	if cands > 1 {
		l = append(l, make([]int, cands), slices.Repeat([]int{cands - 1}, cands))
	}
	for at := range cands {
		for _, wrong := range []int{-1, cands, at - cands, cands + 1, 10, 11, 64, math.MaxInt, math.MinInt, at + 1<<32, at + 256, at - 256} {
			if wrong < 0 || wrong >= cands {
				l = append(l, slices.Concat(upTo(cands)[:at], []int{wrong}, upTo(cands)[at+1:]))
			}
		}
		for _, c := range others(cands, at) {
			twice := downFrom(cands)
			twice[at] = twice[c]
			l = append(l, twice)
		}
	}
	return l
}

func TestMatricesWithWrongLots(t *testing.T) {
	for cands := 1; cands <= 10; cands++ {
		for _, lot := range wrongLots(cands) {
			for _, m := range []api.Pairs{{}, ladder(cands, 4), every(cands, 500000), every(10, -1), every(10, 500001), with(api.Pairs{}, 0, 0, 1)} {
				checkWrong(t, m, cands, lot, api.ErrArg)
			}
		}
	}
}

// A lot is one of as many candidates as there are, not of more or fewer.
func TestLotsOfOtherNumbers(t *testing.T) {
	for cands := -2; cands <= 13; cands++ {
		for have := range 14 {
			for _, lot := range [][]int{upTo(have), downFrom(have)} {
				if have == cands && cands >= 1 && cands <= 10 {
					checkOrder(t, api.Pairs{}, lot)
					continue
				}
				checkWrong(t, api.Pairs{}, cands, lot, api.ErrArg)
				checkWrong(t, ladder(10, 1), cands, lot, api.ErrArg)
			}
		}
	}
}

func TestWrongNumbersOfCandidates(t *testing.T) {
	for _, cands := range append(wilds(), -100, 100, 13, 1<<32+10, 256+3, 1<<16+4, -3) {
		if cands >= 1 && cands <= 10 {
			continue
		}
		for _, m := range []api.Pairs{{}, ladder(3, 1), ladder(10, 1000000), every(10, 500000), every(2, 1), every(10, -1), with(api.Pairs{}, 3, 3, 1), with(api.Pairs{}, 0, 1, math.MaxInt), every(10, 500001)} {
			for _, lot := range [][]int{nil, {}, {0}, upTo(3), downFrom(10), upTo(min(max(cands, 0), 300))} {
				checkWrong(t, m, cands, lot, api.ErrArg)
			}
		}
	}
	for cands := 1; cands <= 10; cands++ {
		if _, _, e := checkModel(t, ladder(cands, 1), cands, upTo(cands)); e != api.OK {
			t.Errorf("%d candidates: %d", cands, int(e))
		}
	}
}

// A matrix is not valid among fewer candidates than have entries.
func TestTooFewCandidates(t *testing.T) {
	for cands := 1; cands <= 10; cands++ {
		for have := 2; have <= 10; have++ {
			m := ladder(have, 3)
			if cands < have {
				checkWrong(t, m, cands, upTo(cands), api.ErrBad)
				checkWrong(t, pairs.Turn(m), cands, upTo(cands), api.ErrBad)
				checkWrong(t, every(have, 5), cands, upTo(cands), api.ErrBad)
				continue
			}
			if l := ordered(m, upTo(cands)); len(l) != have*(have-1)/2 {
				t.Errorf("%v has the links %v", m, l)
			}
		}
	}
}

// Each entry of a matrix with each number that is not valid there.
func TestWrongEntries(t *testing.T) {
	seen := map[api.Errno]int{}
	for _, m := range []api.Pairs{{}, ladder(10, 1000000), every(10, 500000), ladder(4, 2)} {
		for x := range 10 {
			for y := range 10 {
				for _, n := range wilds() {
					cands := 4 + 6*(n&1)
					_, _, e := checkModel(t, with(m, x, y, n), cands, downFrom(cands))
					seen[e]++
				}
			}
		}
	}
	if seen[api.OK] < 1000 || seen[api.ErrBad] < 5000 {
		t.Errorf("the matrices have the errors %v", seen)
	}
	for cands := 1; cands <= 10; cands++ {
		lot := upTo(cands)
		for x := range 10 {
			checkWrong(t, with(api.Pairs{}, x, x, 1), cands, lot, api.ErrBad)
			checkWrong(t, with(api.Pairs{}, x, x, -1), cands, lot, api.ErrBad)
			for _, y := range others(10, x) {
				checkWrong(t, with(api.Pairs{}, x, y, -1), cands, lot, api.ErrBad)
				checkWrong(t, with(api.Pairs{}, x, y, math.MinInt), cands, lot, api.ErrBad)
				checkWrong(t, with(with(api.Pairs{}, x, y, math.MaxInt), y, x, math.MaxInt), cands, lot, api.ErrBad)
				checkWrong(t, with(with(api.Pairs{}, x, y, 1000001), y, x, -1), cands, lot, api.ErrBad)
				checkWrong(t, with(with(api.Pairs{}, x, y, 999999), y, x, 2), cands, lot, api.ErrBad)
				if max(x, y) >= cands {
					checkWrong(t, with(api.Pairs{}, x, y, 1), cands, lot, api.ErrBad)
					checkWrong(t, with(with(api.Pairs{}, x, y, 1), y, x, 1), cands, lot, api.ErrBad)
				}
			}
		}
	}
}
