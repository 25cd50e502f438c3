package sheet_test

import (
	"testing"

	"suffrage/api"
)

// P25.1: Check

// Sheets of all sizes up to some more than the greatest: none, one box too few, one too many, and the sizes for other rules are among them.
func TestP25_1CheckOfEachSize(t *testing.T) {
	for rule := uint8(1); rule <= 16; rule++ {
		for n := 1; n <= 10; n++ {
			c := of(rule, n)
			want, _ := modelBoxes(c)
			for size := range 130 {
				e := api.ErrBad
				if size == want {
					e = api.OK
				}
				checkCheck(t, c, uniform(size, 0), e)
				checkCheck(t, c, uniform(size, 100), e)
			}
			checkCheck(t, c, api.Sheet{}, api.ErrBad)
			checkCheck(t, c, uniform(want+256, 0), api.ErrBad)
			checkCheck(t, c, uniform(want+65536, 0), api.ErrBad)
		}
	}
}

func TestP25_1CheckOfTheSizeForOtherBallots(t *testing.T) {
	for _, rules := range [][3]uint8{{9, 2, 3}, {2, 9, 3}, {3, 9, 2}, {11, 14, 3}, {1, 4, 3}} {
		for _, n := range []int{2, 3, 9, 10} {
			c := of(rules[0], n)
			for _, other := range rules[1:] {
				size, _ := modelBoxes(of(other, n))
				checkCheck(t, c, uniform(size, 0), api.ErrBad)
			}
		}
	}
	// With one candidate a ranking has as many boxes as marks.
	checkCheck(t, of(9, 1), uniform(1, 0), api.OK)
	checkCheck(t, of(2, 1), uniform(1, 0), api.OK)
	checkCheck(t, of(3, 1), uniform(1, 0), api.ErrBad)
}

// All values in each box of small sheets, and the values about the greatest one in some of large ones.
func TestP25_1CheckOfEachValue(t *testing.T) {
	checkValue := func(c api.Contest, size, box int, value uint8) {
		t.Helper()
		want := api.ErrBad
		if value <= 100 {
			want = api.OK
		}
		for _, other := range []uint8{0, 50, 100} {
			checkCheck(t, c, with(uniform(size, other), box, value), want)
		}
	}
	for rule := uint8(1); rule <= 16; rule++ {
		small, large := of(rule, 2), of(rule, 10)
		size, _ := modelBoxes(small)
		for box := range size {
			for value := range 256 {
				checkValue(small, size, box, uint8(value))
			}
		}
		size, _ = modelBoxes(large)
		for _, box := range []int{0, 1, size / 2, size - 2, size - 1} {
			for _, value := range []uint8{0, 1, 99, 100, 101, 102, 128, 200, 255} {
				checkValue(large, size, box, value)
			}
		}
	}
}

func TestP25_1CheckReturnsTheErrorOfBoxesFirst(t *testing.T) {
	for _, bad := range badContests() {
		for _, size := range []int{0, 1, 3, 9, 33, 11, 121, 300} {
			checkCheck(t, bad.c, uniform(size, 0), bad.e)
			checkCheck(t, bad.c, uniform(size, 101), bad.e)
		}
	}
}
