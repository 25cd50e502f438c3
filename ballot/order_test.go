package ballot_test

import (
	"math"
	"math/rand"
	"slices"
	"testing"

	"suffrage/api"
	"suffrage/ballot"
)

// P8.3: Same and Less

// ascending returns ballots of any kinds, each of which comes before the next. Most are not valid.
func ascending() []api.Ballot {
	l := []api.Ballot{}
	for _, k := range []uint8{0, 1, 2, 3, 4, 127, 128, 255} {
		for _, marks := range [][]int{nil, {math.MinInt}, {math.MinInt, 0}, {math.MinInt + 1}, {-1 << 32}, {-256}, {-1}, {-1, 5}, {0}, {0, math.MinInt}, {0, -1}, {0, 0}, {0, 0, 0}, {0, 1},
			{0, 1, 2}, {0, 2}, {0, 10}, {0, math.MaxInt}, {1}, {1, 0}, {1, 0, 0}, {2}, {2, 0, 1}, {2, 1}, {9}, {9, 8}, {10}, {10, 0}, {11}, {255}, {256}, {257}, {1 << 32}, {math.MaxInt - 1},
			{math.MaxInt}, {math.MaxInt, math.MinInt}, {math.MaxInt, math.MaxInt}, times(11, math.MaxInt)} {
			l = append(l, kind(k, marks...))
		}
	}
	return l
}

func checkSameAndLess(t *testing.T, a, b api.Ballot, same, less bool) {
	t.Helper()
	if answer := ballot.Same(a, b); answer != same {
		t.Errorf("Same(%s; %s) = %v", show(a), show(b), answer)
	}
	if answer := ballot.Less(a, b); answer != less {
		t.Errorf("Less(%s; %s) = %v", show(a), show(b), answer)
	}
}

func TestSameAndLess(t *testing.T) {
	l := ascending()
	for i := range l {
		for j, b := range l {
			b.Marks = slices.Clone(b.Marks)
			checkSameAndLess(t, l[i], b, i == j, i < j)
		}
	}
}

// The kind comes first, then the marks in their order, as they are and not as a set.
func TestSameAndLessOfFewBallots(t *testing.T) {
	for _, c := range []struct {
		a, b       api.Ballot
		same, less bool
	}{
		{rank(1), mark(0), false, true}, {mark(0), rank(1), false, false}, {rank(9, 8, 7), score(), false, true}, {score(), mark(9), false, false},
		{rank(0, 1), rank(1, 0), false, true}, {rank(1, 0), rank(0, 1), false, false}, {rank(0), rank(0, 1), false, true}, {rank(0, 1), rank(0), false, false},
		{rank(), rank(0), false, true}, {rank(0), rank(), false, false}, {rank(1), rank(0, 1), false, false}, {score(2), score(10), false, true}, {score(10), score(9), false, false},
		{rank(2, 0, 1), rank(2, 0, 1), true, false}, {rank(2, 0), mark(2, 0), false, true}, {kind(0), rank(), false, true}, {kind(4), score(0), false, false},
		{kind(200), kind(100), false, false}, {rank(3, 3), rank(3), false, false}, {rank(3), rank(3, 3), false, true}, {kind(7), kind(7), true, false},
	} {
		checkSameAndLess(t, c.a, c.b, c.same, c.less)
	}
}

func TestSameAndLessOfAllSmallBallots(t *testing.T) {
	var l []api.Ballot
	for _, marks := range lists([]int{-1, 0, 1, 10}, 3) {
		for _, k := range []uint8{0, 1, 2, 3, 200} {
			l = append(l, kind(k, marks...))
		}
	}
	for _, a := range l {
		for _, b := range l {
			checkSameAndLess(t, a, b, modelSame(a, b), modelLess(a, b))
		}
	}
}

func TestSameAndLessOfRandomBallots(t *testing.T) {
	random := rand.New(rand.NewSource(88))
	equal := 0
	for range 40000 {
		a := randomBallot(random, 1+random.Intn(3))
		b := randomBallot(random, 1+random.Intn(3))
		if random.Intn(2) == 0 {
			b = spoilt(random, a)
		}
		checkSameAndLess(t, a, b, modelSame(a, b), modelLess(a, b))
		if modelSame(a, b) {
			equal++
		}
	}
	if equal < 500 || equal > 39500 {
		t.Errorf("%d pairs are equal", equal)
	}
}

// What lies behind the length of the marks is not part of the ballot.
func TestSameAndLessIgnoreCapacity(t *testing.T) {
	a, b := []int{2, 0, 1}, []int{2, 1, 0}
	checkSameAndLess(t, rank(a[:1]...), rank(b[:1]...), true, false)
	checkSameAndLess(t, rank(b[:1]...), rank(a[:1]...), true, false)
	checkSameAndLess(t, rank(b[:1]...), rank(a...), false, true)
}

// P8.4: Less

func TestLessIsAStrictTotalOrder(t *testing.T) {
	random := rand.New(rand.NewSource(89))
	l := []api.Ballot{{}, rank(), mark(), score(), kind(9), rank(1, 1), rank(1, 1, 1)}
	for range 70 {
		l = append(l, spoilt(random, randomBallot(random, 1+random.Intn(3))))
	}
	for _, a := range l {
		if ballot.Less(a, a) {
			t.Errorf("%s comes before itself", show(a))
		}
		for _, b := range l {
			less, same, more := ballot.Less(a, b), ballot.Same(a, b), ballot.Less(b, a)
			if less && same || less && more || same && more || !less && !same && !more {
				t.Errorf("%s and %s: Less %v, Same %v, and Less the other way %v", show(a), show(b), less, same, more)
			}
			for _, c := range l {
				if less && ballot.Less(b, c) && !ballot.Less(a, c) {
					t.Errorf("%s, %s and %s are not in order", show(a), show(b), show(c))
				}
			}
		}
	}
}

func TestSortingByLess(t *testing.T) {
	random := rand.New(rand.NewSource(90))
	want := ascending()
	for range 20 {
		l := slices.Clone(want)
		random.Shuffle(len(l), func(i, j int) { l[i], l[j] = l[j], l[i] })
		slices.SortFunc(l, func(a, b api.Ballot) int {
			switch {
			case ballot.Less(a, b):
				return -1
			case ballot.Less(b, a):
				return 1
			}
			return 0
		})
		if !slices.EqualFunc(l, want, modelSame) {
			t.Errorf("the ballots have another order: %v", l)
		}
	}
}
