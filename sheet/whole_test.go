package sheet_test

import (
	"math/rand"
	"slices"
	"testing"

	"suffrage/api"
)

// P25.1 to P25.3: every call held against the model of the document's words

// sheetNumber returns sheet number k of those with n boxes, each of which is one of the values.
func sheetNumber(k, n int, values []uint8) api.Sheet {
	s := api.Sheet{Boxes: make([]uint8, n)}
	for i := range n {
		s.Boxes[i] = values[k%len(values)]
		k /= len(values)
	}
	return s
}

func power(base, exponent int) int {
	n := 1
	for range exponent {
		n *= base
	}
	return n
}

// checkAllSheets holds all sheets of a contest, whose boxes are some of the values, against the model, with these numbers of skips.
func checkAllSheets(t *testing.T, c api.Contest, values []uint8, skips ...int) {
	t.Helper()
	n, _ := modelBoxes(c)
	for k := range power(len(values), n) {
		s := sheetNumber(k, n, values)
		for _, m := range skips {
			want, wantE := modelRead(c, policy(m), s, nil)
			checkRead(t, c, policy(m), s, nil, want, wantE)
		}
	}
}

// Each box is empty, doubtful or marked.
func TestWholeAllSheets(t *testing.T) {
	states := []uint8{19, 20, 60}
	every := []int{0, 1, 2, 3, 4, 10}
	for n := 1; n <= 6; n++ {
		for _, rule := range []uint8{1, 2, 13, 14, 15, 16} {
			checkAllSheets(t, of(rule, n), states, 0, 1)
		}
	}
	for _, rule := range []uint8{4, 5, 6, 7, 8, 9, 10, 11, 12} {
		checkAllSheets(t, of(rule, 1), states, every...)
		checkAllSheets(t, of(rule, 2), states, every...)
	}
	checkAllSheets(t, of(9, 3), states, every...)
	checkAllSheets(t, of(12, 4), []uint8{59, 60}, 0, 1, 2, 3)
	checkAllSheets(t, of(3, 1), []uint8{59, 60}, 0, 1)
}

// A sheet of scores of one candidate with doubtful boxes, too: at most three of its boxes are not empty.
func TestWholeSheetsOfScores(t *testing.T) {
	for i := range 11 {
		for j := range 11 {
			for k := range 11 {
				for states := range 27 {
					s := uniform(11, 19)
					for box, state := range map[int]int{i: states % 3, j: states / 3 % 3, k: states / 9} {
						s.Boxes[box] = []uint8{19, 59, 60}[state]
					}
					want, wantE := modelRead(of(3, 1), policy(0), s, nil)
					checkRead(t, of(3, 1), policy(0), s, nil, want, wantE)
				}
			}
		}
	}
}

// All sheets of two candidates to rank, and of four to mark, with all decisions: each box is empty, in doubt, decided to be empty or marked, or marked.
func TestWholeAllDecisions(t *testing.T) {
	for _, rule := range []uint8{1, 2, 9} {
		c := of(rule, map[uint8]int{1: 4, 2: 4, 9: 2}[rule])
		for k := range 5 * 5 * 5 * 5 {
			var l []api.Decision
			s := uniform(4, 0)
			for box := range 4 {
				s.Boxes[box] = []uint8{19, 20, 59, 20, 60}[k%5]
				if state := k % 5; state == 1 || state == 2 {
					l = append(l, api.Decision{Box: box, Marked: state == 2})
				}
				k /= 5
			}
			for skips := range 4 {
				want, wantE := modelRead(c, policy(skips), s, l)
				if wantE != api.OK {
					t.Errorf("the model refuses %s with %d", showDecisions(l), int(wantE))
				}
				checkRead(t, c, policy(skips), s, l, want, api.OK)
				slices.Reverse(l)
				checkRead(t, c, policy(skips), s, l, want, api.OK)
			}
		}
	}
}

// All lists of up to three decisions, right or wrong, about small sheets.
func TestWholeAllListsOfDecisions(t *testing.T) {
	var single []api.Decision
	for box := -1; box <= 4; box++ {
		single = append(single, marked(box), empty(box))
	}
	for k := range 3 * 3 * 3 * 3 {
		s := sheetNumber(k, 4, []uint8{0, 40, 80})
		for _, c := range []api.Contest{of(9, 2), of(14, 4)} {
			for i := range power(len(single)+1, 3) {
				var l []api.Decision
				for range 3 {
					if at := i % (len(single) + 1); at < len(single) {
						l = append(l, single[at])
					}
					i /= len(single) + 1
				}
				want, wantE := modelRead(c, policy(1), s, l)
				checkRead(t, c, policy(1), s, l, want, wantE)
			}
		}
	}
}

// spoiltDecisions returns l with a change, after which it often does not consist of decisions for the sheet.
func spoiltDecisions(random *rand.Rand, l []api.Decision, n int) []api.Decision {
	l = slices.Clone(l)
	wrong := append(wrongBoxes(n), random.Perm(n)...)
	d := api.Decision{Box: wrong[random.Intn(len(wrong))], Marked: random.Intn(2) == 0}
	switch random.Intn(4) {
	case 0:
		return append(l, d)
	case 1:
		return append(l, l...)
	case 2:
		return append(l, all(n, true)...)
	default:
		if len(l) > 0 {
			l[random.Intn(len(l))] = d
		}
		return l
	}
}

// spoiltSheet returns s with a change, after which it often is no sheet of its contest.
func spoiltSheet(random *rand.Rand, s api.Sheet) api.Sheet {
	switch random.Intn(3) {
	case 0:
		return with(s, random.Intn(len(s.Boxes)), uint8(random.Intn(256)))
	case 1:
		return api.Sheet{Boxes: s.Boxes[:random.Intn(len(s.Boxes))]}
	default:
		return api.Sheet{Boxes: append(slices.Clone(s.Boxes), s.Boxes[:1+random.Intn(len(s.Boxes))]...)}
	}
}

// spoiltBallot returns b with a change, after which it often is no ballot of its rule.
func spoiltBallot(random *rand.Rand, b api.Ballot) api.Ballot {
	b.Marks = slices.Clone(b.Marks)
	mark := []int{-1, 0, 1, 2, 9, 10, 11, 255, 256}[random.Intn(9)]
	switch random.Intn(4) {
	case 0:
		b.Kind = uint8(random.Intn(5))
	case 1:
		b.Marks = append(b.Marks, mark)
	case 2:
		slices.Reverse(b.Marks)
	default:
		if len(b.Marks) > 0 {
			b.Marks[random.Intn(len(b.Marks))] = mark
		}
	}
	return b
}

// Random sheets of up to ten candidates with random decisions and ballots, many of them spoilt.
func TestWholeRandom(t *testing.T) {
	random := rand.New(rand.NewSource(2509))
	errors, seen := map[api.Errno]int{}, map[string]int{}
	for range 40000 {
		c, p := of(uint8(1+random.Intn(16)), 1+random.Intn(10)), randomPolicy(random)
		c.Seats = []int{1, 1, 1, 1, 1, 1, 1, 2, len(c.Cands), 0}[random.Intn(10)]
		s := randomSheet(random, c, p)
		l, b := randomDecisions(random, p, s), randomBallot(random, c)
		if random.Intn(10) == 0 {
			s = spoiltSheet(random, s)
		}
		if random.Intn(4) == 0 && len(s.Boxes) > 0 {
			l = spoiltDecisions(random, l, len(s.Boxes))
		}
		if random.Intn(3) == 0 {
			b = spoiltBallot(random, b)
		}
		if random.Intn(20) == 0 {
			p = wrongPolicies()[random.Intn(len(wrongPolicies()))]
		}
		checkAll(t, c, p, s, l, b)
		r, e := modelRead(c, p, s, l)
		errors[e]++
		for what, is := range map[string]bool{"overvotes": r.Over > 0, "several": r.Over > 1, "doubts": len(r.Doubts) > 0, "decisions": e == api.OK && len(l) > 0, "marks": len(r.Ballot.Marks) > 1} {
			if is {
				seen[what]++
			}
		}
	}
	for _, e := range []api.Errno{api.OK, api.ErrArg, api.ErrMany, api.ErrBad} {
		if errors[e] < 300 {
			t.Errorf("the errors are %v", errors)
		}
	}
	for _, what := range []string{"overvotes", "several", "doubts", "decisions", "marks"} {
		if seen[what] < 500 {
			t.Errorf("the readings have %v", seen)
		}
	}
}
