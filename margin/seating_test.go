package margin

import (
	"testing"

	"suffrage/api"
)

// The gains of ballots that are no votes for x never decide a margin, as those of its votes are enough wherever it has any. They are held against the document's words here.
func TestGainsOfLists(t *testing.T) {
	for _, c := range []struct {
		rule uint8
		x, y int
		want [4]int // of a vote for x, a vote for y, a vote for another party, and no vote
	}{
		{api.RuleDHondt, 0, 1, [4]int{6, 0, 4, 4}},
		{api.RuleDHondt, 1, 0, [4]int{6, 0, 1, 1}},
		{api.RuleDHondt, 0, 2, [4]int{5, 0, 4, 4}},
		{api.RuleDHondt, 1, 2, [4]int{2, 0, 1, 1}},
		{api.RuleSainte, 0, 1, [4]int{10, 0, 7, 7}},
		{api.RuleSainte, 1, 0, [4]int{10, 0, 1, 1}},
		{api.RuleSainte, 0, 2, [4]int{8, 0, 7, 7}},
		{api.RuleSainte, 1, 2, [4]int{2, 0, 1, 1}},
	} {
		s := seating{rule: c.rule, seats: []int{4, 1, 0}}
		var got [4]int
		for i, marks := range [][]int{{c.x}, {c.y}, {3 - c.x - c.y}, {0, 1}} {
			got[i] = s.gain(marks, c.x, c.y)
		}
		if blank := s.gain(nil, c.x, c.y); got != c.want || blank != c.want[3] {
			t.Errorf("rule %d, %d and %d: the gains are %v, and %d of a blank ballot; want %v", c.rule, c.x, c.y, got, blank, c.want)
		}
	}
}
