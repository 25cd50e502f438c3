package sheet_test

import (
	"math"
	"math/rand"
	"slices"
	"strings"
	"testing"

	"suffrage/api"
)

// P25.3

func rank(marks ...int) api.Ballot { return api.Ballot{Kind: api.KindRank, Marks: marks} }

func mark(marks ...int) api.Ballot { return api.Ballot{Kind: api.KindMark, Marks: marks} }

func score(marks ...int) api.Ballot { return api.Ballot{Kind: api.KindScore, Marks: marks} }

// checkFilled holds a filled sheet against a drawn one. The contest has as many candidates as the text has words.
func checkFilled(t *testing.T, rule uint8, b api.Ballot, text string) {
	t.Helper()
	checkFill(t, of(rule, len(strings.Fields(text))), b, drawn(text), api.OK)
}

// refuse reports what Fill should have refused.
func refuse(t *testing.T, rule uint8, n int, ballots ...api.Ballot) {
	t.Helper()
	for _, b := range ballots {
		checkFill(t, of(rule, n), b, api.Sheet{}, api.ErrBad)
	}
}

func TestP25_3Marks(t *testing.T) {
	for _, rule := range []uint8{1, 2, 13, 14, 15, 16} {
		checkFilled(t, rule, mark(), ".")
		checkFilled(t, rule, mark(), ". . . .")
		checkFilled(t, rule, mark(0), "x")
		checkFilled(t, rule, mark(0), "x . .")
		checkFilled(t, rule, mark(2), ". . x")
		checkFilled(t, rule, mark(9), ". . . . . . . . . x")
	}
	for _, rule := range []uint8{2, 13} {
		checkFilled(t, rule, mark(0, 2), "x . x")
		checkFilled(t, rule, mark(0, 1, 2), "x x x")
		checkFilled(t, rule, mark(0, 1, 2, 3, 4, 5, 6, 7, 8, 9), "x x x x x x x x x x")
	}
}

// One mark more than allowed; where all candidates may be marked, one more is no candidate's, or one's for the second time.
func TestP25_3OneMarkMore(t *testing.T) {
	for _, rule := range []uint8{1, 14, 15, 16} {
		for n := 2; n <= 10; n++ {
			refuse(t, rule, n, mark(0, 1), mark(0, n-1), mark(firsts(n)...))
		}
		refuse(t, rule, 1, mark(0, 0), mark(0, 1))
	}
	for _, rule := range []uint8{2, 13} {
		for n := 1; n <= 10; n++ {
			full := firsts(n)
			refuse(t, rule, n, mark(append(full, n)...), mark(append(full, n-1)...))
		}
	}
	for n := 1; n <= 10; n++ {
		full := firsts(n)
		refuse(t, 9, n, rank(append(full, n)...), rank(append(full, 0)...))
		refuse(t, 3, n, score(append(full, 0)...), score(full[1:]...))
	}
}

// firsts returns the first n candidates.
func firsts(n int) []int {
	var l []int
	for c := range n {
		l = append(l, c)
	}
	return l
}

func TestP25_3Rankings(t *testing.T) {
	for _, rule := range []uint8{4, 5, 6, 7, 8, 9, 10, 11, 12} {
		checkFilled(t, rule, rank(), ".")
		checkFilled(t, rule, rank(0), "x")
		checkFilled(t, rule, rank(), "... ... ...")
		checkFilled(t, rule, rank(2), "... ... x..")
		checkFilled(t, rule, rank(1, 0), ".x. x.. ...")
		checkFilled(t, rule, rank(2, 0, 1), ".x. ..x x..")
		checkFilled(t, rule, rank(3, 1), ".... .x.. .... x...")
		checkFilled(t, rule, rank(9, 8, 7, 6, 5, 4, 3, 2, 1, 0), ".........x ........x. .......x.. ......x... .....x.... ....x..... ...x...... ..x....... .x........ x.........")
	}
}

// A score of 0 has a box, too.
func TestP25_3Scores(t *testing.T) {
	checkFilled(t, 3, score(0), "x..........")
	checkFilled(t, 3, score(10), "..........x")
	checkFilled(t, 3, score(3, 0, 10), "...x....... x.......... ..........x")
	checkFilled(t, 3, score(0, 0), "x.......... x..........")
	for n := 1; n <= 10; n++ {
		for least := range 11 {
			b, want := score(), uniform(11*n, 0)
			for c := range n {
				b.Marks = append(b.Marks, (least+3*c)%11)
				want.Boxes[11*c+(least+3*c)%11] = 100
			}
			checkFill(t, of(3, n), b, want, api.OK)
		}
	}
}

func TestP25_3BallotsOfAnotherKind(t *testing.T) {
	for rule := uint8(1); rule <= 16; rule++ {
		for n := 1; n <= 10; n++ {
			for _, b := range []api.Ballot{rank(), rank(0), mark(), mark(0), score(make([]int, n)...), score(), {Kind: 0}, {Kind: 4}, {Kind: 255}, {Kind: 0, Marks: []int{0}}} {
				if b.Kind == map[string]uint8{"rankings": 1, "scores": 3}[modelBallots(rule)] || b.Kind == 2 && strings.HasPrefix(modelBallots(rule), "marks") {
					continue
				}
				refuse(t, rule, n, b)
			}
		}
	}
}

// Ballots of the right kind that are not valid among as many candidates as the contest has.
func TestP25_3BallotsThatAreNotValid(t *testing.T) {
	for _, rule := range []uint8{4, 9, 12} {
		refuse(t, rule, 3, rank(0, 0), rank(1, 2, 1), rank(-1), rank(3), rank(0, 3), rank(0, 1, 2, 3), rank(0, 1, 2, 0), rank(256), rank(math.MaxInt), rank(math.MinInt), rank(0, -1))
	}
	for _, rule := range []uint8{2, 13} {
		refuse(t, rule, 3, mark(1, 0), mark(0, 2, 1), mark(0, 0), mark(-1), mark(3), mark(0, 3), mark(0, 1, 2, 3), mark(256), mark(1<<32), mark(math.MaxInt), mark(math.MinInt, 0))
	}
	for _, rule := range []uint8{1, 14, 15, 16} {
		refuse(t, rule, 3, mark(-1), mark(3), mark(256), mark(math.MaxInt), mark(math.MinInt), mark(1, 0), mark(0, 0))
	}
	refuse(t, 3, 3, score(), score(1), score(1, 2), score(1, 2, 3, 4), score(1, 2, -1), score(11, 0, 0), score(0, 0, 11), score(0, 256, 0), score(0, math.MaxInt, 0), score(math.MinInt, 0, 0))
	// Valid among MaxCands candidates, but not among as many as there are.
	refuse(t, 9, 2, rank(2, 0), rank(9))
	refuse(t, 2, 2, mark(0, 2), mark(9))
	refuse(t, 1, 2, mark(2))
	refuse(t, 3, 2, score(make([]int, 10)...))
}

func TestP25_3TheErrorOfTheContestFirst(t *testing.T) {
	for _, bad := range badContests() {
		for _, b := range []api.Ballot{{}, rank(), rank(1, 0), mark(), mark(2), mark(0, 1), score(1, 2, 3), rank(0, 0), mark(2, 1), score(11), {Kind: 9, Marks: make([]int, 1000)}} {
			checkFill(t, bad.c, b, api.Sheet{}, bad.e)
		}
	}
}

// Each ranking of up to four candidates, each approval of up to ten, and many scores: all boxes are told by their indices, as the definitions have them.
func TestP25_3EachBoxByItsIndex(t *testing.T) {
	for n := 1; n <= 4; n++ {
		for _, l := range orders(all(n, false)) {
			for size := range n + 1 {
				b, want := rank(), uniform(n*n, 0)
				for j, d := range l[:size] {
					b.Marks = append(b.Marks, d.Box)
					want.Boxes[d.Box*n+j] = 100
				}
				checkFill(t, of(9, n), b, want, api.OK)
			}
		}
	}
	for n := 1; n <= 10; n++ {
		for set := range 1 << n {
			b, want := mark(), uniform(n, 0)
			for c := range n {
				if set>>c&1 == 1 {
					b.Marks = append(b.Marks, c)
					want.Boxes[c] = 100
				}
			}
			checkFill(t, of(2, n), b, want, api.OK)
			if len(b.Marks) > 1 {
				checkFill(t, of(14, n), b, api.Sheet{}, api.ErrBad)
			} else {
				checkFill(t, of(14, n), b, want, api.OK)
			}
		}
	}
	random := rand.New(rand.NewSource(2503))
	for range 2000 {
		n := 1 + random.Intn(10)
		b, want := score(), uniform(11*n, 0)
		for i := range n {
			j := random.Intn(11)
			b.Marks = append(b.Marks, j)
			want.Boxes[11*i+j] = 100
		}
		checkFill(t, of(3, n), b, want, api.OK)
	}
}

// A ballot of the rule is expressed whatever the seats are.
func TestP25_3SeatsDoNotCount(t *testing.T) {
	for _, rule := range []uint8{1, 2, 3, 4, 11, 12, 13, 14, 15, 16} {
		for seats := 1; seats <= 10; seats++ {
			c := of(rule, 10)
			c.Seats = seats
			for _, b := range []api.Ballot{rank(2, 0), mark(3), mark(0, 1, 9), score(slices.Repeat([]int{4}, 10)...)} {
				want, wantE := modelFill(c, b)
				checkFill(t, c, b, want, wantE)
			}
		}
	}
}
