package sheet_test

import (
	"testing"

	"suffrage/api"
	"suffrage/sheet"
)

// P25.2: empty, doubtful and marked boxes

// checkValue reads a sheet of one box, without and with decisions about it.
func checkValue(t *testing.T, rule uint8, p api.Policy, value uint8, state string) {
	t.Helper()
	blank := api.Reading{Ballot: api.Ballot{Kind: api.KindMark}}
	if rule == api.RuleRunoff {
		blank.Ballot.Kind = api.KindRank
	}
	full, doubt := blank, blank
	full.Ballot.Marks = []int{0}
	doubt.Doubts = []int{0}
	c, s := of(rule, 1), uniform(1, value)
	checkRead(t, c, p, s, nil, map[string]api.Reading{"empty": blank, "doubtful": doubt, "marked": full}[state], api.OK)
	if state == "doubtful" {
		checkRead(t, c, p, s, all(1, true), full, api.OK)
		checkRead(t, c, p, s, all(1, false), blank, api.OK)
	} else {
		checkError(t, c, p, s, all(1, true), api.ErrArg)
		checkError(t, c, p, s, all(1, false), api.ErrArg)
	}
}

func TestP25_2ValuesAboutTheLimits(t *testing.T) {
	for _, rule := range []uint8{1, 2, 9, 16} {
		for value, state := range map[uint8]string{0: "empty", 18: "empty", 19: "empty", 20: "doubtful", 21: "doubtful", 40: "doubtful", 58: "doubtful", 59: "doubtful", 60: "marked", 61: "marked", 99: "marked", 100: "marked"} {
			checkValue(t, rule, policy(0), value, state)
		}
		for value, state := range map[uint8]string{0: "empty", 1: "doubtful", 2: "doubtful", 50: "doubtful", 98: "doubtful", 99: "doubtful", 100: "marked"} {
			checkValue(t, rule, api.Policy{Low: 1, High: 100}, value, state)
		}
		// Low equal to High: no box can be doubtful.
		for value, state := range map[uint8]string{0: "empty", 49: "empty", 50: "marked", 51: "marked", 100: "marked"} {
			checkValue(t, rule, api.Policy{Low: 50, High: 50}, value, state)
		}
		checkValue(t, rule, api.Policy{Low: 1, High: 1}, 0, "empty")
		checkValue(t, rule, api.Policy{Low: 1, High: 1}, 1, "marked")
		checkValue(t, rule, api.Policy{Low: 100, High: 100}, 99, "empty")
		checkValue(t, rule, api.Policy{Low: 100, High: 100}, 100, "marked")
		checkValue(t, rule, api.Policy{Low: 50, High: 51}, 49, "empty")
		checkValue(t, rule, api.Policy{Low: 50, High: 51}, 50, "doubtful")
		checkValue(t, rule, api.Policy{Low: 50, High: 51}, 51, "marked")
	}
}

// All values under all valid policies, ten of them on a sheet.
func TestP25_2AllValuesUnderAllPolicies(t *testing.T) {
	c := of(api.RuleApproval, 10)
	for low := 1; low <= 100; low++ {
		for high := low; high <= 100; high++ {
			p := api.Policy{Low: uint8(low), High: uint8(high), Skips: high % 11}
			for first := 0; first <= 100; first += 10 {
				s, want := uniform(10, 0), api.Reading{Ballot: api.Ballot{Kind: api.KindMark}}
				for box := range min(10, 101-first) {
					value := first + box
					s.Boxes[box] = uint8(value)
					switch {
					case value >= high:
						want.Ballot.Marks = append(want.Ballot.Marks, box)
					case value >= low:
						want.Doubts = append(want.Doubts, box)
					}
				}
				checkRead(t, c, p, s, nil, want, api.OK)
			}
		}
	}
}

// The limits are the same for the boxes of all kinds, wherever they are.
func TestP25_2ValuesOfEachBox(t *testing.T) {
	for _, rule := range []uint8{2, 3, 9} {
		c := of(rule, 10)
		n, _ := modelBoxes(c)
		for box := range n {
			for value, doubtful := range map[uint8]bool{19: false, 20: true, 59: true, 60: false} {
				s := with(uniform(n, 0), box, value)
				want, _ := modelRead(c, policy(0), s, nil)
				checkRead(t, c, policy(0), s, nil, want, api.OK)
				if r, _ := sheet.Read(c, policy(0), s, nil); (len(r.Doubts) > 0) != doubtful {
					t.Errorf("rule %d: box %d with %d has the doubts %v", rule, box, value, r.Doubts)
				}
			}
		}
	}
}
