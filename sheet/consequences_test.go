package sheet_test

import (
	"math/rand"
	"slices"
	"testing"

	"suffrage/api"
	"suffrage/ballot"
	"suffrage/contest"
	"suffrage/sheet"
)

// P25.4

// checkValid reports a reading whose ballot is not valid, not of the rule's kind, or has too many marks.
func checkValid(t *testing.T, c api.Contest, r api.Reading) {
	t.Helper()
	kind, _ := contest.Kind(c.Rule)
	most, _ := contest.Most(c.Rule, len(c.Cands))
	if e := ballot.Check(r.Ballot, len(c.Cands)); e != api.OK || r.Ballot.Kind != kind || len(r.Ballot.Marks) > most {
		t.Errorf("rule %d with %d candidates: the reading %v, whose ballot has the error %d", c.Rule, len(c.Cands), r, int(e))
	}
}

func TestP25_4TheBallotIsValid(t *testing.T) {
	random := rand.New(rand.NewSource(2504))
	for range 20000 {
		c, p := of(uint8(1+random.Intn(16)), 1+random.Intn(10)), randomPolicy(random)
		s := randomSheet(random, c, p)
		r, e := sheet.Read(c, p, s, randomDecisions(random, p, s))
		if e != api.OK {
			t.Errorf("rule %d, %v, %s: %d", c.Rule, p, show(s), int(e))
		}
		checkValid(t, c, r)
	}
	for rule := uint8(1); rule <= 16; rule++ {
		for n := 1; n <= 10; n++ {
			for skips := range 11 {
				for _, value := range []uint8{0, 19, 20, 59, 60, 100} {
					c := of(rule, n)
					size, _ := modelBoxes(c)
					r, e := sheet.Read(c, policy(skips), uniform(size, value), nil)
					if e != api.OK {
						t.Errorf("rule %d with %d candidates, all boxes %d: %d", rule, n, value, int(e))
					}
					checkValid(t, c, r)
				}
			}
		}
	}
}

// checkFillAndRead fills a sheet and reads it.
func checkFillAndRead(t *testing.T, c api.Contest, p api.Policy, b api.Ballot) {
	t.Helper()
	s, e := sheet.Fill(c, b)
	if e != api.OK {
		t.Errorf("rule %d with %d candidates: Fill of %v = %d", c.Rule, len(c.Cands), b, int(e))
	}
	checkCheck(t, c, s, api.OK)
	checkRead(t, c, p, s, nil, api.Reading{Ballot: b}, api.OK)
}

// Filled sheets under all valid limits, and all valid numbers of skips.
func TestP25_4AFilledSheetIsReadUnderEveryPolicy(t *testing.T) {
	ballots := map[uint8][]api.Ballot{
		1: {mark(), mark(3)}, 2: {mark(), mark(0, 2, 3), mark(0, 1, 2, 3)}, 3: {score(0, 10, 3, 1), score(0, 0, 0, 0)},
		9: {rank(), rank(2), rank(3, 0), rank(1, 2, 3, 0)}, 16: {mark(0)},
	}
	for rule, l := range ballots {
		for low := 1; low <= 100; low++ {
			for high := low; high <= 100; high++ {
				checkFillAndRead(t, of(rule, 4), api.Policy{Low: uint8(low), High: uint8(high), Skips: (low + high) % 11}, l[high%len(l)])
			}
		}
		for skips := range 11 {
			for _, b := range l {
				checkFillAndRead(t, of(rule, 4), policy(skips), b)
			}
		}
	}
}

// All approvals and rankings of few candidates, and many ballots of all rules and sizes.
func TestP25_4AllBallotsAreReadAgain(t *testing.T) {
	for n := 1; n <= 6; n++ {
		for skips := range 11 {
			for _, l := range orders(all(min(n, 4), false)) {
				var b api.Ballot
				for _, d := range l {
					b = rank(append(b.Marks, d.Box)...)
					checkFillAndRead(t, of(9, n), policy(skips), b)
				}
			}
			for set := range 1 << n {
				b := mark()
				for c := range n {
					if set>>c&1 == 1 {
						b.Marks = append(b.Marks, c)
					}
				}
				checkFillAndRead(t, of(13, n), policy(skips), b)
			}
		}
	}
	random := rand.New(rand.NewSource(2505))
	for range 20000 {
		c := of(uint8(1+random.Intn(16)), 1+random.Intn(10))
		checkFillAndRead(t, c, randomPolicy(random), randomBallot(random, c))
	}
}

// Where no box is doubtful, nothing remains in doubt, and every decision is refused.
func TestP25_4WithoutDoubtsNoDecision(t *testing.T) {
	random := rand.New(rand.NewSource(2506))
	for turn := range 3000 {
		c, p := of(uint8(1+turn%16), 1+random.Intn(10)), randomPolicy(random)
		s := randomSheet(random, c, p)
		for _, box := range modelDoubtful(p, s) {
			s.Boxes[box] = valueOf(random, p, 2*random.Intn(2))
		}
		r, e := sheet.Read(c, p, s, nil)
		if e != api.OK || len(r.Doubts) > 0 {
			t.Errorf("%v, %s: the doubts are %v, %d", p, show(s), r.Doubts, int(e))
		}
		for box := -1; box <= len(s.Boxes); box++ {
			checkError(t, c, p, s, []api.Decision{{Box: box, Marked: random.Intn(2) == 0}}, api.ErrArg)
		}
	}
}

// checkAsDrawn reports where decisions do not read as if their boxes had been drawn that way.
func checkAsDrawn(t *testing.T, c api.Contest, p api.Policy, s api.Sheet, l []api.Decision) {
	t.Helper()
	clear := s
	for _, d := range l {
		if d.Marked {
			clear = with(clear, d.Box, 100)
		} else {
			clear = with(clear, d.Box, 0)
		}
	}
	want, wantE := sheet.Read(c, p, clear, nil)
	checkRead(t, c, p, s, l, want, wantE)
}

// A decision leaves what the other boxes say: the sheet is read as one on which just its box is drawn clearly.
func TestP25_4ADecisionAffectsItsOwnBox(t *testing.T) {
	random := rand.New(rand.NewSource(2507))
	decided := 0
	for range 3000 {
		c, p := of(uint8(1+random.Intn(16)), 1+random.Intn(10)), randomPolicy(random)
		s := randomSheet(random, c, p)
		before, _ := sheet.Read(c, p, s, nil)
		for _, box := range before.Doubts {
			for _, d := range []api.Decision{marked(box), empty(box)} {
				checkAsDrawn(t, c, p, s, []api.Decision{d})
			}
			want := before
			want.Doubts = slices.DeleteFunc(slices.Clone(before.Doubts), func(other int) bool { return other == box })
			checkRead(t, c, p, s, []api.Decision{empty(box)}, want, api.OK)
			decided++
		}
		checkAsDrawn(t, c, p, s, randomDecisions(random, p, s))
	}
	if decided < 5000 {
		t.Errorf("%d decisions", decided)
	}
}

// With scores and marks, the marks of all other candidates stay; with rankings, what is read ahead of the rank of the box.
func TestP25_4OtherMarksStay(t *testing.T) {
	random := rand.New(rand.NewSource(2508))
	for range 3000 {
		c, p := of([]uint8{2, 3, 9, 13}[random.Intn(4)], 1+random.Intn(10)), policy(random.Intn(11))
		s := randomSheet(random, c, p)
		before, _ := sheet.Read(c, p, s, nil)
		places := modelPlaces(modelBallots(c.Rule), len(c.Cands))
		for _, box := range before.Doubts {
			after, _ := sheet.Read(c, p, s, []api.Decision{marked(box)})
			at := places[box]
			switch c.Rule {
			case 3:
				for cand := range c.Cands {
					if cand != at.cand && after.Ballot.Marks[cand] != before.Ballot.Marks[cand] {
						t.Errorf("%s: box %d changes the score of candidate %d", show(s), box, cand)
					}
				}
			case 9:
				head := uniform(len(s.Boxes), 0) // what the sheet says ahead of the rank
				for i, place := range places {
					if place.column < at.column {
						head.Boxes[i] = s.Boxes[i]
					}
				}
				first, _ := sheet.Read(c, p, head, nil)
				if n := len(first.Ballot.Marks); len(after.Ballot.Marks) < n || !slices.Equal(after.Ballot.Marks[:n], first.Ballot.Marks) {
					t.Errorf("%s: box %d changes the ranks ahead of it: %v; want %v first", show(s), box, after.Ballot.Marks, first.Ballot.Marks)
				}
			default:
				want := append(slices.Clone(before.Ballot.Marks), at.cand)
				if slices.Sort(want); !slices.Equal(after.Ballot.Marks, want) {
					t.Errorf("%s: box %d makes the marks %v; want %v", show(s), box, after.Ballot.Marks, want)
				}
			}
		}
	}
}
