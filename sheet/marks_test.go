package sheet_test

import (
	"testing"

	"suffrage/api"
)

// P25.2: the reading of marks

func TestP25_2OneMark(t *testing.T) {
	for _, rule := range []uint8{1, 14, 15, 16} {
		checkDrawn(t, rule, 0, ".", nil, 0)
		checkDrawn(t, rule, 0, "x", []int{0}, 0)
		checkDrawn(t, rule, 0, ". . .", nil, 0)
		checkDrawn(t, rule, 0, "x . .", []int{0}, 0)
		checkDrawn(t, rule, 0, ". x .", []int{1}, 0)
		checkDrawn(t, rule, 0, ". . x", []int{2}, 0)
		checkDrawn(t, rule, 0, "x x .", nil, 1)
		checkDrawn(t, rule, 0, "x . x", nil, 1)
		checkDrawn(t, rule, 0, ". x x", nil, 1)
		checkDrawn(t, rule, 0, "x x x", nil, 1)
		checkDrawn(t, rule, 0, ". . . . . . . . . x", []int{9}, 0)
		checkDrawn(t, rule, 0, "x . . . . . . . . x", nil, 1)
		checkDrawn(t, rule, 0, "x x x x x x x x x x", nil, 1)
	}
}

// As many marks as there are candidates are no overvote.
func TestP25_2Marks(t *testing.T) {
	for _, rule := range []uint8{2, 13} {
		checkDrawn(t, rule, 0, ".", nil, 0)
		checkDrawn(t, rule, 0, "x", []int{0}, 0)
		checkDrawn(t, rule, 0, ". . .", nil, 0)
		checkDrawn(t, rule, 0, ". . x", []int{2}, 0)
		checkDrawn(t, rule, 0, "x . x", []int{0, 2}, 0)
		checkDrawn(t, rule, 0, "x x x", []int{0, 1, 2}, 0)
		checkDrawn(t, rule, 0, "x . x x . x . . x x", []int{0, 2, 3, 5, 8, 9}, 0)
		checkDrawn(t, rule, 0, "x x x x x x x x x .", []int{0, 1, 2, 3, 4, 5, 6, 7, 8}, 0)
		checkDrawn(t, rule, 0, "x x x x x x x x x x", []int{0, 1, 2, 3, 4, 5, 6, 7, 8, 9}, 0)
	}
}

// All sets of marked boxes, for each rule of this kind and each number of candidates. The marks are in the order of a valid ballot.
func TestP25_2AllSetsOfMarks(t *testing.T) {
	for rule, one := range map[uint8]bool{1: true, 2: false, 13: false, 14: true, 15: true, 16: true} {
		for n := 1; n <= 10; n++ {
			for set := range 1 << n {
				s, want := uniform(n, 59), api.Reading{Ballot: api.Ballot{Kind: api.KindMark}}
				for c := range n {
					if set>>c&1 == 1 {
						s.Boxes[c] = 60
						want.Ballot.Marks = append(want.Ballot.Marks, c)
					} else {
						want.Doubts = append(want.Doubts, c)
					}
				}
				if one && len(want.Ballot.Marks) > 1 {
					want.Ballot.Marks, want.Over = nil, 1
				}
				checkRead(t, of(rule, n), policy(set%11), s, nil, want, api.OK)
			}
		}
	}
}

// Neither the number of seats nor Skips bears on how many candidates may be marked.
func TestP25_2SeatsAndSkipsDoNotCountForMarks(t *testing.T) {
	for _, rule := range []uint8{1, 2, 13, 14, 15, 16} {
		for seats := 1; seats <= 10; seats++ {
			c := of(rule, 10)
			c.Seats = seats
			for marks := range 11 {
				s := uniform(10, 0)
				for i := range marks {
					s.Boxes[9-i] = 100
				}
				want, _ := modelRead(of(rule, 10), policy(0), s, nil)
				for skips := range 11 {
					checkRead(t, c, policy(skips), s, nil, want, api.OK)
				}
			}
		}
	}
}
