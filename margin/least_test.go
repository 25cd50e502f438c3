package margin_test

import (
	"math"
	"math/rand"
	"slices"
	"testing"
)

// P23.3

func TestP23_3(t *testing.T) {
	gains, counts := ints(1, 3, 0, 2), ints(4, 2, 9, 3) // 6 of the greatest, then 6, then 4: 16
	for need, want := range map[int]int{1: 1, 2: 1, 3: 1, 4: 2, 5: 2, 6: 2, 7: 3, 8: 3, 9: 4, 10: 4, 11: 5, 12: 5, 13: 6, 14: 7, 15: 8, 16: 9} {
		checkLeast(t, gains, counts, need, want, true)
	}
	for _, need := range ints(0, -1, -16, -million, math.MinInt+1, math.MinInt) {
		checkLeast(t, gains, counts, need, 0, true)
	}
	for _, need := range ints(17, 18, 100, million, 1<<32, math.MaxInt-1, math.MaxInt) {
		checkLeast(t, gains, counts, need, 0, false)
	}
}

// A need is met within the count of a gain, just at its end, and by one more.
func TestP23_3WithinACount(t *testing.T) {
	for _, x := range []struct{ need, want int }{{6, 1}, {7, 1}, {8, 2}, {14, 2}, {15, 3}, {34, 5}, {35, 5}, {36, 6}, {40, 6}, {41, 7}, {60, 10}, {61, 11}, {62, 12}} {
		checkLeast(t, ints(5, 7, 1), ints(5, 5, 2), x.need, x.want, true)
	}
	checkLeast(t, ints(5, 7, 1), ints(5, 5, 2), 63, 0, false)
}

// In whatever order they come.
func TestP23_3AnyOrder(t *testing.T) {
	gains, counts := ints(9, 4, 4, 2, 0), ints(2, 3, 1, 5, 7)
	for _, order := range lots(5) {
		for need := -2; need <= 48; need++ {
			want, wantOK := 0, true
			switch {
			case need > 44:
				wantOK = false
			case need > 34:
				want = 6 + (need-34+1)/2
			case need > 18:
				want = 2 + (need-18+3)/4
			case need > 0:
				want = (need + 8) / 9
			}
			checkLeast(t, called(order, gains), called(order, counts), need, want, wantOK)
		}
	}
}

func TestP23_3EqualGains(t *testing.T) {
	for n := 1; n <= 64; n++ {
		gains, counts := slices.Repeat(ints(3), n), slices.Repeat(ints(2), n)
		for _, ballots := range ints(1, n, 2*n-1, 2*n) {
			checkLeast(t, gains, counts, 3*ballots, ballots, true)
			checkLeast(t, gains, counts, 3*ballots-2, ballots, true)
			checkLeast(t, gains, counts, 3*ballots-3, ballots-1, true)
		}
		checkLeast(t, gains, counts, 6*n+1, 0, false)
	}
}

func TestP23_3NoGains(t *testing.T) {
	for _, counts := range [][]int{ints(0), ints(1), ints(million)} {
		checkLeast(t, ints(0), counts, 1, 0, false)
		checkLeast(t, ints(0), counts, 0, 0, true)
		checkLeast(t, ints(0, 5), append(counts, 2), 10, 2, true)
		checkLeast(t, ints(0, 5), append(counts, 2), 11, 0, false)
	}
	checkLeast(t, ints(7, 5), ints(0, 2), 6, 2, true)
	checkLeast(t, ints(7, 5), ints(0, 2), 11, 0, false)
	checkLeast(t, ints(7), ints(0), 1, 0, false)
	checkLeast(t, ints(7), ints(0), 0, 0, true)
	checkLeast(t, nil, nil, 0, 0, true)
	checkLeast(t, nil, nil, -1, 0, true)
	checkLeast(t, nil, nil, 1, 0, false)
	checkLeast(t, []int{}, nil, 1, 0, false)
	checkLeast(t, nil, []int{}, 0, 0, true)
}

// The greatest numbers, in lists as long as they may be.
func TestP23_3GreatNumbers(t *testing.T) {
	gains, counts := slices.Repeat(ints(million), 64), slices.Repeat(ints(million), 64)
	all := 64 * million * million
	checkLeast(t, gains, counts, all, 64*million, true)
	checkLeast(t, gains, counts, all+1, 0, false)
	checkLeast(t, gains, counts, all-million, 64*million-1, true)
	checkLeast(t, gains, counts, all-million+1, 64*million, true)
	checkLeast(t, gains, counts, math.MaxInt, 0, false)
	checkLeast(t, gains, counts, 1, 1, true)
	checkLeast(t, gains, counts, math.MinInt, 0, true)
	checkLeast(t, ints(1), ints(million), million, million, true)
	checkLeast(t, ints(1), ints(million), million+1, 0, false)
	checkLeast(t, ints(million), ints(1), million, 1, true)
	checkLeast(t, ints(million-1, million), ints(million, million), million*million+1, million+1, true)
}

// choices returns the least number of ballots that do, of all ways to take some.
func choices(gains, counts []int, need int) (int, bool) {
	if need <= 0 {
		return 0, true
	}
	if len(gains) == 0 {
		return 0, false
	}
	least, found := 0, false
	for taken := range counts[0] + 1 {
		if n, ok := choices(gains[1:], counts[1:], need-taken*gains[0]); ok && (!found || n+taken < least) {
			least, found = n+taken, true
		}
	}
	return least, found
}

func TestP23_3TheLeastOfAllChoices(t *testing.T) {
	random := rand.New(rand.NewSource(2331))
	for range 3000 {
		var gains, counts []int
		for range random.Intn(5) {
			gains, counts = append(gains, random.Intn(6)), append(counts, random.Intn(5))
		}
		need := random.Intn(40) - 3
		want, ok := choices(gains, counts, need)
		checkLeast(t, gains, counts, need, want, ok)
	}
}

func TestP23_3RandomLists(t *testing.T) {
	random := rand.New(rand.NewSource(2332))
	found := map[bool]int{}
	for range 3000 {
		gain, count := ints(2, 20, 5000, million)[random.Intn(4)], ints(2, 20, 5000, million)[random.Intn(4)]
		var gains, counts []int
		all := 0
		for range random.Intn(65) {
			gains, counts = append(gains, random.Intn(gain+1)), append(counts, random.Intn(count+1))
			all += gains[len(gains)-1] * counts[len(counts)-1]
		}
		for _, need := range ints(all+1, all, all-1, all/2, random.Intn(all+5), random.Intn(all/64+5)) {
			_, ok, _ := checkModelLeast(t, gains, counts, need)
			found[ok]++
		}
	}
	if found[true] < 1000 || found[false] < 1000 {
		t.Errorf("so many gains are enough, and not: %v", found)
	}
}

// The errors of Least

func TestP23_3ListsThatDifferInLength(t *testing.T) {
	lengths := ints(0, 1, 2, 3, 63, 64, 65, 66, 128, 320, 4096)
	for _, n := range lengths {
		for _, m := range lengths {
			gains, counts := slices.Repeat(ints(1), n), slices.Repeat(ints(1), m)
			for _, need := range ints(-1, 0, 1, 2, 1000) {
				if n != m || n > 64 {
					checkNoLeast(t, gains, counts, need)
				} else {
					checkModelLeast(t, gains, counts, need)
				}
			}
		}
	}
}

func TestP23_3WrongNumbers(t *testing.T) {
	for _, wild := range append(wilds(), 2*million, -million*million, 1<<32+5, 1<<20, 1<<40) {
		for n := 1; n <= 64; n += 9 {
			for _, at := range ints(0, n/2, n-1) {
				right, wrong := slices.Repeat(ints(1), n), slices.Repeat(ints(1), n)
				wrong[at] = wild
				for _, need := range ints(math.MinInt, 0, 1, n, math.MaxInt) {
					if wild < 0 || wild > million {
						checkNoLeast(t, right, wrong, need)
						checkNoLeast(t, wrong, right, need)
						checkNoLeast(t, wrong, wrong, need)
					} else {
						checkModelLeast(t, right, wrong, need)
						checkModelLeast(t, wrong, right, need)
						checkModelLeast(t, wrong, wrong, need)
					}
				}
			}
		}
	}
}
