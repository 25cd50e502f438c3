package sheet_test

import (
	"testing"

	"suffrage/api"
)

// P25.1: Boxes

// The numbers of boxes are written out, as the model counts them by the same words as the program.
func TestP25_1BoxesOfEachRule(t *testing.T) {
	cands := []int{1, 2, 3, 4, 5, 6, 7, 8, 9, 10}
	want := map[string][]int{
		"marks (at most one)": cands,
		"marks":               cands,
		"rankings":            {1, 4, 9, 16, 25, 36, 49, 64, 81, 100},
		"scores":              {11, 22, 33, 44, 55, 66, 77, 88, 99, 110},
	}
	rules := map[string][]uint8{"marks (at most one)": {1, 14, 15, 16}, "marks": {2, 13}, "rankings": {4, 5, 6, 7, 8, 9, 10, 11, 12}, "scores": {3}}
	told := 0
	for ballots, numbers := range want {
		for _, rule := range rules[ballots] {
			for i, n := range cands {
				checkBoxes(t, of(rule, n), numbers[i], api.OK)
			}
			told++
		}
	}
	if told != 16 {
		t.Errorf("%d rules are told of", told)
	}
}

func TestP25_1BoxesOfSeveralSeats(t *testing.T) {
	for _, rule := range []uint8{1, 2, 3, 4, 11, 12, 13, 14, 15, 16} {
		c := of(rule, 10)
		want, _ := modelBoxes(c)
		for c.Seats = 1; c.Seats <= 10; c.Seats++ {
			checkBoxes(t, c, want, api.OK)
		}
	}
}

func TestP25_1BoxesOfNoContest(t *testing.T) {
	for name, bad := range badContests() {
		if _, e := modelBoxes(bad.c); e != bad.e {
			t.Errorf("%s: the error of contest.Check is %d", name, int(e))
		}
		checkBoxes(t, bad.c, 0, bad.e)
	}
	for rule := range 256 {
		if rule < 1 || rule > 16 {
			checkBoxes(t, of(uint8(rule), 2), 0, api.ErrBad)
		}
	}
}
