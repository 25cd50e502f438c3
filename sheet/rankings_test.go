package sheet_test

import (
	"testing"

	"suffrage/api"
)

// P25.2: the reading of rankings. The words of a drawn sheet are candidates, and their letters ranks.

func TestP25_2FullRankings(t *testing.T) {
	for _, rule := range []uint8{4, 5, 6, 7, 8, 9, 10, 11, 12} {
		for skips := range 11 {
			checkDrawn(t, rule, skips, "x. .x", []int{0, 1}, 0)
			checkDrawn(t, rule, skips, ".x x.", []int{1, 0}, 0)
			checkDrawn(t, rule, skips, ".x. ..x x..", []int{2, 0, 1}, 0)
			checkDrawn(t, rule, skips, "...x x... .x.. ..x.", []int{1, 2, 3, 0}, 0)
			checkDrawn(t, rule, skips, ".........x ........x. .......x.. ......x... .....x.... ....x..... ...x...... ..x....... .x........ x.........", []int{9, 8, 7, 6, 5, 4, 3, 2, 1, 0}, 0)
		}
	}
}

func TestP25_2OneCandidateToRank(t *testing.T) {
	for skips := range 11 {
		checkDrawn(t, 9, skips, "x", []int{0}, 0)
		checkDrawn(t, 9, skips, ".", nil, 0)
		checkDrawn(t, 9, skips, "?", nil, 0, 0)
		checkDecided(t, 9, skips, "?", []api.Decision{marked(0)}, []int{0}, 0)
	}
}

func TestP25_2BlankRankings(t *testing.T) {
	for skips := range 11 {
		checkDrawn(t, 9, skips, ".. ..", nil, 0)
		checkDrawn(t, 9, skips, ".... .... .... ....", nil, 0)
		checkDrawn(t, 9, skips, "?. .?", nil, 0, 0, 3)
	}
}

// ranking reads a sheet under each number of skips; read tells the marks with each of them, and the last ones of read go on.
func ranking(t *testing.T, text string, over []int, read ...[]int) {
	t.Helper()
	for skips := range 11 {
		checkDrawn(t, 9, skips, text, read[min(skips, len(read)-1)], over[min(skips, len(over)-1)])
	}
}

func TestP25_2SkippedRanks(t *testing.T) {
	never := []int{0}
	ranking(t, ".x.. ..x. ...x ....", never, []int{0, 1, 2}, nil, []int{0, 1, 2})                              // one in front
	ranking(t, "..x. ...x .... ....", never, []int{0, 1}, nil, nil, []int{0, 1})                               // two in front
	ranking(t, "...x .... .... ....", never, []int{0}, nil, nil, nil, []int{0})                                // three in front
	ranking(t, "x... ..x. ...x ....", never, []int{0, 1, 2}, []int{0}, []int{0, 1, 2})                         // one in the middle
	ranking(t, "x... ...x .... ....", never, []int{0, 1}, []int{0}, []int{0}, []int{0, 1})                     // two
	ranking(t, "x.... ....x ..... ..... .....", never, []int{0, 1}, []int{0}, []int{0}, []int{0}, []int{0, 1}) // three
	ranking(t, "x... .x.. .... ....", never, []int{0, 1})                                                      // two at the end
	ranking(t, ".... x... .... ....", never, []int{1})                                                         // three at the end
	ranking(t, "x... .x.. ..x. ....", never, []int{0, 1, 2})                                                   // one at the end
}

// Only ranks side by side are counted together.
func TestP25_2SkippedRanksApart(t *testing.T) {
	never := []int{0}
	ranking(t, "x..... ..x... ....x. ...... ...... ......", never, []int{0, 1, 2}, []int{0}, []int{0, 1, 2})
	ranking(t, ".x.... ...x.. .....x ...... ...... ......", never, []int{0, 1, 2}, nil, []int{0, 1, 2})
	ranking(t, "..x... .....x ...... ...... ...... ......", never, []int{0, 1}, nil, nil, []int{0, 1})
	ranking(t, "x..... ..x... .....x ...... ...... ......", never, []int{0, 1, 2}, []int{0}, []int{0, 1}, []int{0, 1, 2})
	ranking(t, "x...... ...x... .....x. ......x ....... ....... .......", never, []int{0, 1, 2, 3}, []int{0}, []int{0}, []int{0, 1, 2, 3})
	ranking(t, ".x...... ...x.... .....x.. .......x ........ ........ ........ ........", never, []int{0, 1, 2, 3}, nil, []int{0, 1, 2, 3})
}

// With ten candidates and Skips of MaxCands, ten ranks must be skipped, which is all of them.
func TestP25_2ManySkippedRanks(t *testing.T) {
	for rank := range 10 {
		s := uniform(100, 0)
		s.Boxes[30+rank] = 100 // candidate 3
		for skips := range 11 {
			want := api.Reading{Ballot: api.Ballot{Kind: 1}}
			if skips == 0 || rank < skips {
				want.Ballot.Marks = []int{3}
			}
			checkRead(t, of(9, 10), policy(skips), s, nil, want, api.OK)
		}
	}
	s := uniform(100, 0)
	s.Boxes[0], s.Boxes[19] = 100, 100 // candidate 0 at rank 0, and 1 at rank 9
	for skips := range 11 {
		want := api.Reading{Ballot: api.Ballot{Kind: 1, Marks: []int{0}}}
		if skips == 0 || skips > 8 {
			want.Ballot.Marks = []int{0, 1}
		}
		checkRead(t, of(12, 10), policy(skips), s, nil, want, api.OK)
	}
}

func TestP25_2OvervotedRanks(t *testing.T) {
	always := []int{1}
	ranking(t, "xx. x.. ..x", always, nil)                    // in front
	ranking(t, "x.. x.. x..", always, nil)                    // all of it
	ranking(t, "x.. .x. .x.", always, []int{0})               // in the middle
	ranking(t, "x... .x.. .xx. ...x", always, []int{0})       // in the middle; what follows is not read
	ranking(t, "x... .x.. ..xx ...x", always, []int{0, 1, 2}) // at the end
	ranking(t, "...x ...x ...x x..x", []int{1, 0, 0, 1}, []int{3}, []int{3}, []int{3}, []int{3})
	ranking(t, "xx xx", always, nil)
	ranking(t, ".x .x", []int{1, 0, 1}, nil)
	// One overvote is counted, as the reading stops there.
	ranking(t, "xxx xxx xxx", always, nil)
	ranking(t, "x... .xxx .xxx ....", always, []int{0})
}

// An overvoted rank is no skipped one, and behind the end of the reading it is no overvote.
func TestP25_2OvervotedRanksAfterSkippedOnes(t *testing.T) {
	ranking(t, ".x... .x... ..x.. ..... .....", []int{1, 0, 1}, nil)
	ranking(t, "..x.. ..x.. ..... ..... .....", []int{1, 0, 0, 1}, nil)
	ranking(t, "x.... ..x.. ..x.. ..... .....", []int{1, 0, 1}, []int{0})
	ranking(t, "x.... ...x. ...x. ..... .....", []int{1, 0, 0, 1}, []int{0})
	ranking(t, "x.... ....x ....x .x... .....", []int{1, 0, 0, 1}, []int{0, 3})
	ranking(t, "xx... .x... ...x. ....x .....", []int{1}, []int{0})
}

func TestP25_2ACandidateAtTwoRanks(t *testing.T) {
	ranking(t, "xx. ..x ...", []int{0}, []int{0, 1})
	ranking(t, "xxx ... ...", []int{0}, []int{0})
	ranking(t, "x.x .x. ...", []int{0}, []int{0, 1})
	ranking(t, ".xx x.. ...", []int{0}, []int{1, 0})
	ranking(t, "xx.. ..xx .... ....", []int{0}, []int{0, 1})
	// In an overvoted rank it is a marked box like any other.
	ranking(t, "xx. .x. ..x", []int{1}, []int{0})
	ranking(t, "xxx .xx ...", []int{1}, []int{0})
	ranking(t, "x..x .x.x ..x. ....", []int{1}, []int{0, 1, 2})
}

// A rank with a candidate that is ranked already has a marked box, so that it is not skipped, and those about it are not side by side.
func TestP25_2ARepeatedCandidateIsNoSkippedRank(t *testing.T) {
	ranking(t, "xx. ..x ...", []int{0}, []int{0, 1})
	ranking(t, "x.x.. ....x ..... ..... .....", []int{0}, []int{0, 1}, []int{0}, []int{0, 1})
	ranking(t, "x.xx..x ....... .....x. ....... ....... ....... .......", []int{0}, []int{0, 2}, []int{0}, []int{0, 2})
	ranking(t, "xxxx. ....x ..... ..... .....", []int{0}, []int{0, 1})
	ranking(t, "x..x... ......x ....... ....... ....... ....... .......", []int{0}, []int{0, 1}, []int{0}, []int{0}, []int{0, 1})
}

func TestP25_2ACandidateThatIsNeverRanked(t *testing.T) {
	ranking(t, "x.. ... .x.", []int{0}, []int{0, 2})
	ranking(t, "... x.. .x.", []int{0}, []int{1, 2})
	ranking(t, "... ... x..", []int{0}, []int{2})
}
