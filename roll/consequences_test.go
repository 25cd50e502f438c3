package roll_test

import (
	"math/rand"
	"strconv"
	"testing"

	"suffrage/api"
	"suffrage/roll"
)

// P24.4

// operationNames returns the names of the operations in the document's order.
func operationNames() []string { return []string{"Issue", "Return", "Vote", "Strike", "Restore"} }

// All sequences of six operations on one voter, from each state: nobody votes twice, and who has voted stays in VoterVoted.
func TestP24_4AllShortSequences(t *testing.T) {
	calls := operations()
	voted := 0
	for state := uint8(1); state <= 4; state++ {
		for sequence := range 5 * 5 * 5 * 5 * 5 * 5 {
			l := []api.Voter{of("ann", 3, state)}
			votes := 0
			for range 6 {
				operation := operationNames()[sequence%5]
				sequence /= 5
				after, e := calls[operation](l, "ann")
				if e != api.OK {
					continue
				}
				if l[0].State == api.VoterVoted {
					t.Errorf("%s is done by somebody who has voted", operation)
				}
				if operation == "Vote" {
					votes++
				}
				l = after
			}
			if votes > 1 || (votes == 1 || state == api.VoterVoted) != (l[0].State == api.VoterVoted) {
				t.Errorf("sequence %d from state %d: %d votes, and the state %d", sequence, state, votes, l[0].State)
			}
			voted += votes
		}
	}
	if voted < 1000 {
		t.Errorf("%d votes", voted)
	}
}

// history is what has become of the voters: their precincts and states, as the operations that were done have made them, and how often each has voted.
type history struct {
	precincts map[string]int
	states    map[string]uint8
	votes     map[string]int
}

func newHistory() history {
	return history{map[string]int{}, map[string]uint8{}, map[string]int{}}
}

// step is one operation of a sequence.
type step struct {
	operation, name string
	precinct        int
}

// take does the step and returns the error that the document's words have for it.
func (h history) take(s step) api.Errno {
	state, there := h.states[s.name]
	if s.operation == "Add" {
		switch {
		case !modelValid(of(s.name, s.precinct, 1)):
			return api.ErrArg
		case there:
			return api.ErrAgain
		case len(h.states) == 64:
			return api.ErrFull
		}
		h.states[s.name], h.precincts[s.name] = 1, s.precinct
		return api.OK
	}
	before, after := modelStep(s.operation)
	switch {
	case !there:
		return api.ErrNone
	case state != before:
		return api.ErrState
	}
	h.states[s.name] = after
	if s.operation == "Vote" {
		h.votes[s.name]++
	}
	return api.OK
}

// roll returns the voters of the history, in order.
func (h history) roll() []api.Voter {
	var l []api.Voter
	for name, state := range h.states {
		l = modelWith(l, of(name, h.precincts[name], state))
	}
	return l
}

// randomStep returns a step for one of so many names, some of them no names.
func randomStep(random *rand.Rand, names int) step {
	s := step{operation: "Add", name: "n" + strconv.Itoa(random.Intn(names)), precinct: random.Intn(9)}
	if random.Intn(4) > 0 {
		s.operation = operationNames()[random.Intn(5)]
	}
	if random.Intn(20) == 0 {
		s.name = []string{"", " ", "\x7f", "n 1", "n"}[random.Intn(5)]
	}
	return s
}

func do(l []api.Voter, s step) ([]api.Voter, api.Errno) {
	if s.operation == "Add" {
		return roll.Add(l, s.name, s.precinct)
	}
	return operations()[s.operation](l, s.name)
}

// checkOthers reports voters of a roll before who are missing or others afterwards, except the one that was named.
func checkOthers(t *testing.T, before, after []api.Voter, s step) {
	t.Helper()
	for _, v := range before {
		if now, e := roll.Find(after, v.Name); v.Name != s.name && (e != api.OK || now != v) {
			t.Errorf("%v changes %v to %v, %d", s, v, now, int(e))
		}
	}
}

// Long sequences, with errors among them, of few names and of more than a roll may have.
func TestP24_4LongSequences(t *testing.T) {
	random := rand.New(rand.NewSource(2412))
	seen := map[api.Errno]int{}
	for turn := range 30 {
		h := newHistory()
		var l []api.Voter
		for range 1500 {
			s := randomStep(random, 1+turn*4)
			wantE := h.take(s)
			after, e := do(l, s)
			seen[e]++
			if e != wantE {
				t.Errorf("%v of %s: %d; want %d", s, show(l), int(e), int(wantE))
			}
			if e != api.OK {
				if len(after) > 0 {
					t.Errorf("%v: %s beside an error", s, show(after))
				}
				continue
			}
			checkOthers(t, l, after, s)
			l = after
			checkCheck(t, l, api.OK)
		}
		checkRoll(t, l, api.OK, h.roll(), api.OK, "the roll after a sequence")
		for name, n := range h.votes {
			if v, e := roll.Find(l, name); n > 1 || e != api.OK || v.State != api.VoterVoted {
				t.Errorf("%q votes %d times and is %v, %d", name, n, v, int(e))
			}
		}
	}
	for _, e := range []api.Errno{api.OK, api.ErrArg, api.ErrNone, api.ErrFull, api.ErrAgain, api.ErrState} {
		if seen[e] < 100 {
			t.Errorf("the steps have the errors %v", seen)
		}
	}
}

// Each step of some sequences is held against the whole history, and the roll is encoded and read on the way.
func TestP24_4EachStepOfASequence(t *testing.T) {
	random := rand.New(rand.NewSource(2413))
	for range 20 {
		h := newHistory()
		var l []api.Voter
		for range 200 {
			s := randomStep(random, 12)
			wantE := h.take(s)
			after, e := do(l, s)
			if e != wantE {
				t.Errorf("%v of %s: %d; want %d", s, show(l), int(e), int(wantE))
			}
			if e == api.OK {
				l = after
			}
			checkRoll(t, l, api.OK, h.roll(), api.OK, "the roll after %v", s)
			checkBytes(t, l, string(encoded(h.roll())), api.OK)
			checkRead(t, encoded(h.roll()), l, api.OK)
		}
	}
}

// No operation, in whatever state the others are, changes what Count answers of those who have voted, but Vote.
func TestP24_4OnlyVoteCountsAsVoted(t *testing.T) {
	random := rand.New(rand.NewSource(2414))
	for range 2000 {
		l := randomRoll(random, 10)
		before, _ := roll.Count(l, -1)
		for _, v := range l {
			for operation, call := range operations() {
				after, e := call(l, v.Name)
				if e != api.OK {
					continue
				}
				want := before.Voted
				if operation == "Vote" {
					want++
				}
				if n, e := roll.Count(after, -1); e != api.OK || n.Voted != want {
					t.Errorf("%s of %v: %v, %d; want %d voted", operation, v, n, int(e), want)
				}
			}
		}
	}
}
