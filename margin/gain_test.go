package margin_test

import (
	"math"
	"slices"
	"testing"

	"suffrage/margin"
)

// P23.2

func TestP23_2Plurality(t *testing.T) {
	for _, x := range []struct {
		marks []int
		want  int
	}{
		{nil, 1},
		{ints(0), 1},
		{ints(1), 2},
		{ints(2), 0},
		{ints(3), 1},
		{ints(0, 1), 1},
		{ints(0, 2), 1},
		{ints(1, 2), 1},
		{ints(0, 1, 2, 3), 1},
	} {
		checkGain(t, 1, 4, x.marks, 1, 2, x.want)
		checkGain(t, 1, 4, x.marks, 2, 1, 2-x.want)
	}
}

func TestP23_2Approval(t *testing.T) {
	for _, x := range []struct {
		marks []int
		want  int
	}{
		{nil, 1},
		{ints(0), 1},
		{ints(1), 2},
		{ints(2), 0},
		{ints(0, 1), 2},
		{ints(1, 3), 2},
		{ints(0, 2), 0},
		{ints(2, 3), 0},
		{ints(1, 2), 1},
		{ints(0, 3), 1},
		{ints(0, 1, 2, 3), 1},
		{ints(0, 1, 3), 2},
	} {
		checkGain(t, 2, 4, x.marks, 1, 2, x.want)
		checkGain(t, 2, 4, x.marks, 2, 1, 2-x.want)
	}
}

func TestP23_2Scores(t *testing.T) {
	for _, x := range []struct {
		marks      []int
		want, back int
	}{
		{ints(0, 0, 0), 10, 10},
		{ints(5, 0, 0), 15, 5},
		{ints(10, 0, 0), 20, 0},
		{ints(10, 10, 0), 20, 0},
		{ints(0, 10, 10), 0, 20},
		{ints(0, 7, 1), 9, 11},
		{ints(10, 0, 10), 10, 10},
		{ints(3, 9, 4), 9, 11},
	} {
		checkGain(t, 3, 3, x.marks, 0, 2, x.want)
		checkGain(t, 3, 3, x.marks, 2, 0, x.back)
	}
}

func TestP23_2Borda(t *testing.T) {
	for _, x := range []struct {
		marks      []int
		want, back int
	}{
		{nil, 3, 3},
		{ints(0), 6, 0},
		{ints(1), 3, 3},
		{ints(2), 0, 6},
		{ints(0, 2), 4, 2},
		{ints(2, 0), 2, 4},
		{ints(1, 0), 5, 1},
		{ints(1, 3, 0), 4, 2},
		{ints(1, 3, 0, 2), 4, 2},
		{ints(1, 3, 2), 2, 4},
		{ints(0, 1, 3, 2), 6, 0},
		{ints(2, 1, 3, 0), 0, 6},
		{ints(1, 3), 3, 3},
	} {
		checkGain(t, 4, 4, x.marks, 0, 2, x.want)
		checkGain(t, 4, 4, x.marks, 2, 0, x.back)
	}
}

// A gain is the greatest amount by which a change can raise the points of x against those of w: of all ballots that there are.
func TestP23_2TheGreatestOfAllChanges(t *testing.T) {
	for rule := uint8(1); rule <= 4; rule++ {
		kind := kindOf(rule)
		for cands := 2; cands <= 4; cands++ {
			all := ballots(cands, kind)
			if kind == 3 {
				all = [][]int{nil}
				for range cands {
					all = longer(all, [][]int{upTo(11), {0, 10}, {0, 4, 10}}[cands-2])
				}
			}
			for w := range cands {
				for x := range cands {
					if w != x {
						checkGreatest(t, rule, cands, all, w, x)
					}
				}
			}
		}
	}
}

// checkGreatest checks the gain of each of all ballots.
func checkGreatest(t *testing.T, rule uint8, cands int, all [][]int, w, x int) {
	t.Helper()
	ahead := func(marks []int) int {
		return modelPoints(rule, cands, marks, x) - modelPoints(rule, cands, marks, w)
	}
	best := math.MinInt
	for _, marks := range all {
		best = max(best, ahead(marks))
	}
	seen := map[int]bool{}
	for _, marks := range all {
		checkGain(t, rule, cands, marks, w, x, best-ahead(marks))
		seen[best-ahead(marks)] = true
	}
	if !seen[0] || !seen[2*best] {
		t.Errorf("rule %d, %d candidates, %d and %d: the gains are %v", rule, cands, w, x, seen)
	}
}

// The least and the greatest gains there are, with each number of candidates.
func TestP23_2Ends(t *testing.T) {
	for cands := 2; cands <= 10; cands++ {
		for w := range cands {
			for x := range cands {
				if w == x {
					continue
				}
				checkGain(t, 1, cands, ints(w), w, x, 2)
				checkGain(t, 1, cands, ints(x), w, x, 0)
				checkGain(t, 2, cands, ints(w), w, x, 2)
				checkGain(t, 2, cands, ints(x), w, x, 0)
				scores := make([]int, cands)
				scores[w] = 10
				checkGain(t, 3, cands, scores, w, x, 20)
				checkGain(t, 3, cands, scores, x, w, 0)
				checkGain(t, 4, cands, ints(w), w, x, 2*(cands-1))
				checkGain(t, 4, cands, ints(x), w, x, 0)
				checkGain(t, 1, cands, nil, w, x, 1)
				checkGain(t, 2, cands, nil, w, x, 1)
				checkGain(t, 4, cands, nil, w, x, cands-1)
				checkGain(t, 4, cands, ints(w, x), w, x, cands)
			}
		}
	}
}

func TestP23_2AllBallotsOfAFewCandidates(t *testing.T) {
	for rule := uint8(1); rule <= 4; rule++ {
		for cands := 2; cands <= 5; cands++ {
			for _, marks := range ballots(cands, kindOf(rule)) {
				for w := range cands {
					for x := range cands {
						checkModelGain(t, rule, cands, marks, w, x)
					}
				}
			}
		}
	}
}

// The errors of Gain

// rightMarks returns marks of a ballot by a rule.
func rightMarks(rule uint8, cands int) []int {
	if kindOf(rule) == 3 {
		return make([]int, cands)
	}
	return ints(0)
}

func TestP23_2WrongRules(t *testing.T) {
	for rule := range 256 {
		for _, marks := range [][]int{nil, ints(0), ints(1), ints(0, 1), ints(3, 2)} {
			for w := range 2 {
				if rule < 1 || rule > 4 {
					checkNoGain(t, uint8(rule), 2, marks, w, 1-w)
				} else {
					checkModelGain(t, uint8(rule), 2, marks, w, 1-w)
				}
			}
		}
	}
}

func TestP23_2WrongNumbersOfCandidates(t *testing.T) {
	for rule := uint8(1); rule <= 4; rule++ {
		for _, cands := range append(wilds(), -9, 13, 1<<32+2, 1<<8+2, 1<<16+2) {
			for _, marks := range [][]int{nil, ints(0), ints(1), ints(0, 1), make([]int, 11), make([]int, 12)} {
				if cands < 2 || cands > 10 {
					checkNoGain(t, rule, cands, marks, 0, 1)
					checkNoGain(t, rule, cands, marks, 1, 0)
					checkNoGain(t, rule, cands, marks, 0, 0)
				} else {
					checkModelGain(t, rule, cands, marks, 0, 1)
				}
			}
		}
		for cands := 2; cands <= 10; cands++ {
			if _, e := margin.Gain(rule, cands, rightMarks(rule, cands), 0, cands-1); e != 0 {
				t.Errorf("rule %d, %d candidates: error %d", rule, cands, int(e))
			}
		}
	}
}

func TestP23_2NoCandidates(t *testing.T) {
	for rule := uint8(1); rule <= 4; rule++ {
		for cands := 2; cands <= 10; cands++ {
			marks := rightMarks(rule, cands)
			for _, c := range noCandidates(cands) {
				for other := range cands {
					checkNoGain(t, rule, cands, marks, c, other)
					checkNoGain(t, rule, cands, marks, other, c)
				}
				checkNoGain(t, rule, cands, marks, c, c)
			}
			for c := range cands {
				checkNoGain(t, rule, cands, marks, c, c)
			}
		}
	}
}

// wrongMarks returns, for ballots of a rule, marks that are not valid, of each sort.
func wrongMarks(rule uint8, cands int) [][]int {
	if kindOf(rule) == 3 {
		wrong := [][]int{nil, {}, make([]int, cands-1), make([]int, cands+1), make([]int, 200)}
		for at := range cands {
			for _, score := range wilds() {
				if score < 0 || score > 10 {
					scores := make([]int, cands)
					scores[at] = score
					wrong = append(wrong, scores)
				}
			}
		}
		return wrong
	}
	wrong := [][]int{ints(0, 0), ints(0, 1, 0), ints(1, 1), append(upTo(cands), 0), upTo(cands + 1), downFrom(cands + 1), make([]int, 200), upTo(200)}
	for _, c := range noCandidates(cands) {
		wrong = append(wrong, ints(c), ints(0, c), ints(c, 0), append(upTo(cands-1), c))
	}
	if kindOf(rule) == 2 {
		wrong = append(wrong, ints(1, 0), downFrom(cands))
	}
	return wrong
}

func TestP23_2WrongMarks(t *testing.T) {
	for rule := uint8(1); rule <= 4; rule++ {
		for cands := 2; cands <= 10; cands++ {
			for _, marks := range wrongMarks(rule, cands) {
				checkNoGain(t, rule, cands, marks, 0, 1)
				checkNoGain(t, rule, cands, marks, cands-1, 0)
			}
		}
	}
}

// Marks are taken as those of the rule's kind: such of another kind may be valid or not.
func TestP23_2MarksOfAnotherKind(t *testing.T) {
	checkNoGain(t, 1, 3, ints(2, 0, 1), 0, 1) // a ranking
	checkNoGain(t, 2, 3, ints(2, 0, 1), 0, 1)
	checkGain(t, 3, 3, ints(2, 0, 1), 0, 1, 12)
	checkGain(t, 4, 3, ints(2, 0, 1), 0, 1, 3)
	checkNoGain(t, 1, 3, ints(0, 0, 2), 0, 2) // scores
	checkNoGain(t, 2, 3, ints(0, 0, 2), 0, 2)
	checkGain(t, 3, 3, ints(0, 0, 2), 0, 2, 8)
	checkNoGain(t, 4, 3, ints(0, 0, 2), 0, 2)
	checkGain(t, 1, 3, ints(0, 2), 0, 1, 1) // an approval
	checkGain(t, 2, 3, ints(0, 2), 0, 1, 2)
	checkNoGain(t, 3, 3, ints(0, 2), 0, 1)
	checkGain(t, 4, 3, ints(0, 2), 0, 1, 4)
	checkGain(t, 1, 3, ints(0, 1, 2), 0, 2, 1) // of each kind
	checkGain(t, 2, 3, ints(0, 1, 2), 0, 2, 1)
	checkGain(t, 3, 3, ints(0, 1, 2), 0, 2, 8)
	checkGain(t, 4, 3, ints(0, 1, 2), 0, 2, 4)
	for rule := uint8(1); rule <= 4; rule++ {
		for kind := uint8(1); kind <= 3; kind++ {
			for _, marks := range slices.Concat(ballots(3, kind), ballots(4, kind)) {
				checkModelGain(t, rule, 3, marks, 2, 0)
			}
		}
	}
}
