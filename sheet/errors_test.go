package sheet_test

import (
	"math"
	"testing"

	"suffrage/api"
)

// P25.2: the errors of Read and their order

func TestP25_2TheErrorsOfCheckFirst(t *testing.T) {
	tooMany := all(500, true)
	for _, p := range []api.Policy{policy(0), {}, policy(-1)} {
		for _, l := range [][]api.Decision{nil, {{Box: -1}}, all(2, true), tooMany} {
			for _, bad := range badContests() {
				for _, s := range []api.Sheet{{}, uniform(3, 30), uniform(9, 101), uniform(33, 0), uniform(121, 255)} {
					checkError(t, bad.c, p, s, l, bad.e)
				}
			}
			for rule := uint8(1); rule <= 16; rule++ {
				c := of(rule, 3)
				n, _ := modelBoxes(c)
				for _, s := range []api.Sheet{{}, uniform(n-1, 30), uniform(n+1, 30), with(uniform(n, 30), 0, 101), with(uniform(n, 30), n-1, 255)} {
					checkError(t, c, p, s, l, api.ErrBad)
				}
			}
		}
	}
}

// Skips count for rankings alone, but must be valid for all rules.
func TestP25_2WrongPolicies(t *testing.T) {
	for rule := uint8(1); rule <= 16; rule++ {
		c := of(rule, 3)
		n, _ := modelBoxes(c)
		for _, p := range wrongPolicies() {
			for _, value := range []uint8{0, 30, 100} {
				s := uniform(n, value)
				checkError(t, c, p, s, nil, api.ErrArg)
				checkError(t, c, p, s, all(1, true), api.ErrArg)
				checkError(t, c, p, s, all(n+1, true), api.ErrArg) // ahead of ErrMany
				checkError(t, c, p, s, []api.Decision{{Box: -1}}, api.ErrArg)
			}
		}
	}
}

func TestP25_2AllPolicies(t *testing.T) {
	for low := range 256 {
		for high := range 256 {
			p := api.Policy{Low: uint8(low), High: uint8(high), Skips: low % 11}
			if 1 <= low && low <= high && high <= 100 {
				checkRead(t, of(2, 1), p, uniform(1, 0), nil, api.Reading{Ballot: api.Ballot{Kind: 2}}, api.OK)
			} else {
				checkError(t, of(2, 1), p, uniform(1, 0), nil, api.ErrArg)
			}
		}
	}
	for skips := range 11 {
		for rule := uint8(1); rule <= 16; rule++ {
			c := of(rule, 10)
			n, _ := modelBoxes(c)
			want, wantE := modelRead(c, policy(skips), uniform(n, 0), nil)
			if wantE != api.OK {
				t.Errorf("the model refuses %d skips with %d", skips, int(wantE))
			}
			checkRead(t, c, policy(skips), uniform(n, 0), nil, want, api.OK)
		}
	}
}

// As many decisions as boxes may be right, if all boxes are doubtful; one more is too many, whatever they are.
func TestP25_2AsManyDecisionsAsBoxes(t *testing.T) {
	for rule := uint8(1); rule <= 16; rule++ {
		for _, n := range []int{1, 2, 3, 10} {
			c := of(rule, n)
			size, _ := modelBoxes(c)
			for _, marked := range []bool{false, true} {
				s, l := uniform(size, 59), all(size, marked)
				want, wantE := modelRead(c, policy(0), s, l)
				if wantE != api.OK || len(want.Doubts) > 0 {
					t.Errorf("the model reads %v, %d", want, int(wantE))
				}
				checkRead(t, c, policy(0), s, l, want, api.OK)
				for _, box := range []int{0, size - 1, size, -1, math.MaxInt} {
					checkError(t, c, policy(0), s, append(all(size, marked), api.Decision{Box: box}), api.ErrMany)
					checkError(t, c, policy(0), s, append([]api.Decision{{Box: box}}, all(size, marked)...), api.ErrMany)
				}
				checkError(t, c, policy(0), uniform(size, 0), all(size+1, marked), api.ErrMany)
				checkError(t, c, policy(0), s, append(all(size, marked), all(size, marked)...), api.ErrMany)
				checkError(t, c, policy(0), s, make([]api.Decision, 1000), api.ErrMany)
				// As many as boxes, but not all of them for a box of its own.
				l[0].Box = size
				checkError(t, c, policy(0), s, l, api.ErrArg)
				if size > 1 {
					l[0].Box = size - 1
					checkError(t, c, policy(0), s, l, api.ErrArg)
				}
			}
		}
	}
}

func TestP25_2DecisionsForNoDoubtfulBox(t *testing.T) {
	c, s := of(9, 3), drawn("?x. .?x x.?")
	for box, symbol := range "?x..?xx.?" {
		for _, marked := range []bool{false, true} {
			l := []api.Decision{{Box: box, Marked: marked}}
			if symbol == '?' {
				want, _ := modelRead(c, policy(0), s, l)
				checkRead(t, c, policy(0), s, l, want, api.OK)
			} else {
				checkError(t, c, policy(0), s, l, api.ErrArg)
				checkError(t, c, policy(0), s, append([]api.Decision{{Box: 4}, {Box: 8}}, l...), api.ErrArg)
				checkError(t, c, policy(0), s, append(l, api.Decision{Box: 4}, api.Decision{Box: 8}), api.ErrArg)
			}
		}
	}
}

// A second decision is none for the sheet, whether it says the same as the first or not.
func TestP25_2TwoDecisionsForOneBox(t *testing.T) {
	for rule := uint8(1); rule <= 16; rule++ {
		c := of(rule, 4)
		n, _ := modelBoxes(c)
		s := uniform(n, 20)
		for _, box := range []int{0, 1, n - 1} {
			for words := range 4 {
				first, second := api.Decision{Box: box, Marked: words%2 == 0}, api.Decision{Box: box, Marked: words/2 == 0}
				other := api.Decision{Box: 2, Marked: true}
				checkError(t, c, policy(0), s, []api.Decision{first, second}, api.ErrArg)
				checkError(t, c, policy(0), s, []api.Decision{first, other, second}, api.ErrArg)
				checkError(t, c, policy(0), s, []api.Decision{other, first, second}, api.ErrArg)
			}
		}
	}
}

func TestP25_2DecisionsForNoBox(t *testing.T) {
	for rule := uint8(1); rule <= 16; rule++ {
		for _, n := range []int{1, 2, 3, 10} {
			c := of(rule, n)
			size, _ := modelBoxes(c)
			s := uniform(size, 30)
			for _, box := range wrongBoxes(size) {
				for _, marked := range []bool{false, true} {
					l := []api.Decision{{Box: box, Marked: marked}}
					checkError(t, c, policy(0), s, l, api.ErrArg)
					if size > 1 {
						checkError(t, c, policy(0), s, append(all(1, true), l...), api.ErrArg)
					}
				}
			}
		}
	}
}

// An index of a smaller sheet may lie beyond it, in the memory behind its boxes.
func TestP25_2DecisionsForABoxBehindTheSheet(t *testing.T) {
	s := uniform(9, 30)
	s.Boxes = s.Boxes[:4]
	for box := range 9 {
		l := []api.Decision{{Box: box, Marked: true}}
		want, wantE := modelRead(of(9, 2), policy(0), s, l)
		checkRead(t, of(9, 2), policy(0), s, l, want, wantE)
		if (wantE == api.OK) != (box < 4) {
			t.Errorf("box %d: %d", box, int(wantE))
		}
	}
}

// Several faults at once, each list of them shorter by the first.
func TestP25_2SeveralFaults(t *testing.T) {
	bad, wrong := with(uniform(9, 30), 4, 101), policy(11)
	tooMany := append(all(9, true), api.Decision{Box: 9})
	none := []api.Decision{{Box: 9}, {Box: -1}, {Box: 0}, {Box: 0}}
	checkError(t, of(9, 11), wrong, bad, tooMany, api.ErrMany)
	checkError(t, of(0, 3), wrong, bad, tooMany, api.ErrBad)
	checkError(t, of(9, 3), wrong, bad, tooMany, api.ErrBad)
	checkError(t, of(9, 3), wrong, uniform(9, 30), tooMany, api.ErrArg)
	checkError(t, of(9, 3), policy(10), uniform(9, 30), tooMany, api.ErrMany)
	checkError(t, of(9, 3), policy(10), uniform(9, 30), none, api.ErrArg)
	checkError(t, of(9, 3), policy(10), uniform(9, 30), none[2:], api.ErrArg)
	checkError(t, of(9, 3), policy(10), uniform(9, 60), none[3:], api.ErrArg)
	checkRead(t, of(9, 3), policy(10), uniform(9, 59), none[3:], api.Reading{Ballot: api.Ballot{Kind: 1}, Doubts: []int{1, 2, 3, 4, 5, 6, 7, 8}}, api.OK)
}
