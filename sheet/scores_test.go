package sheet_test

import (
	"slices"
	"testing"

	"suffrage/api"
)

// P25.2: the reading of scores. The words of a drawn sheet are candidates, and their letters scores.

const noScore = "..........."

func scored(marks ...int) api.Reading {
	return api.Reading{Ballot: api.Ballot{Kind: api.KindScore, Marks: marks}}
}

func TestP25_2Scores(t *testing.T) {
	checkDrawn(t, 3, 0, noScore, []int{0}, 0)
	checkDrawn(t, 3, 0, "x..........", []int{0}, 0)
	checkDrawn(t, 3, 0, "..........x", []int{10}, 0)
	checkDrawn(t, 3, 0, "...x....... "+noScore+" ..........x x..........", []int{3, 0, 10, 0}, 0)
	checkDrawn(t, 3, 0, noScore+" "+noScore+" "+noScore, []int{0, 0, 0}, 0)
	checkDrawn(t, 3, 0, "..........x ..........x ..........x", []int{10, 10, 10}, 0)
}

// Each score of each candidate, alone and beside others.
func TestP25_2EachScore(t *testing.T) {
	for _, n := range []int{1, 2, 10} {
		for c := range n {
			for score := range 11 {
				for _, other := range []int{-1, 0, 7, 10} { // -1 is none
					s, want := uniform(11*n, 0), make([]int, n)
					for i := range n {
						if i != c && other >= 0 {
							s.Boxes[11*i+other], want[i] = 100, other
						}
					}
					s.Boxes[11*c+score], want[c] = 60, score
					checkRead(t, of(3, n), policy(0), s, nil, scored(want...), api.OK)
				}
			}
		}
	}
}

func TestP25_2CandidatesWithSeveralScores(t *testing.T) {
	checkDrawn(t, 3, 0, "xx.........", []int{0}, 1)
	checkDrawn(t, 3, 0, ".........xx", []int{0}, 1)
	checkDrawn(t, 3, 0, "x.........x", []int{0}, 1)
	checkDrawn(t, 3, 0, "xxxxxxxxxxx", []int{0}, 1)
	checkDrawn(t, 3, 0, "...x....... .x.x....... .......x...", []int{3, 0, 7}, 1)
	checkDrawn(t, 3, 0, ".x.x....... .......x... "+noScore+" .......xxx.", []int{0, 7, 0, 0}, 2)
	checkDrawn(t, 3, 0, ".x.x....... .......xxxx xx.........", []int{0, 0, 0}, 3)
}

// Each set of candidates has several marked boxes, and each other candidate a score of its own.
func TestP25_2OverIsHowManyHaveSeveral(t *testing.T) {
	for set := range 1 << 10 {
		s, want := uniform(110, 0), scored()
		for c := range 10 {
			s.Boxes[11*c+c] = 100
			if set>>c&1 == 1 {
				s.Boxes[11*c+10] = 100
				want.Ballot.Marks, want.Over = append(want.Ballot.Marks, 0), want.Over+1
			} else {
				want.Ballot.Marks = append(want.Ballot.Marks, c)
			}
		}
		checkRead(t, of(3, 10), policy(set%11), s, nil, want, api.OK)
	}
	checkRead(t, of(3, 10), policy(0), uniform(110, 100), nil, api.Reading{Ballot: api.Ballot{Kind: 3, Marks: make([]int, 10)}, Over: 10}, api.OK)
}

// All sets of marked boxes of one candidate, whose neighbors keep their scores.
func TestP25_2AllBoxesOfACandidate(t *testing.T) {
	for set := range 1 << 11 {
		s := uniform(33, 0)
		s.Boxes[10], s.Boxes[22] = 100, 100 // score 10 of candidate 0, and score 0 of candidate 2
		var scores []int
		for score := range 11 {
			if set>>score&1 == 1 {
				s.Boxes[11+score] = 100
				scores = append(scores, score)
			}
		}
		want := scored(10, 0, 0)
		switch {
		case len(scores) == 1:
			want.Ballot.Marks[1] = slices.Max(scores)
		case len(scores) > 1:
			want.Over = 1
		}
		checkRead(t, of(3, 3), policy(set%11), s, nil, want, api.OK)
	}
}

// Skips are for rankings alone.
func TestP25_2SkipsDoNotCountForScores(t *testing.T) {
	for skips := range 11 {
		checkDrawn(t, 3, skips, noScore+" "+noScore+" "+noScore+" .....x.....", []int{0, 0, 0, 5}, 0)
		checkDrawn(t, 3, skips, "xx......... "+noScore+" "+noScore+" .....x.....", []int{0, 0, 0, 5}, 1)
	}
}
