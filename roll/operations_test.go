package roll_test

import (
	"math/rand"
	"strings"
	"testing"

	"suffrage/api"
)

// P24.2: Issue, Return, Vote, Strike and Restore

// Each operation at each of the four states, written out: 0 where it is not allowed.
func TestP24_2OperationsAtEachState(t *testing.T) {
	for operation, after := range map[string][5]uint8{
		"Issue":   {api.VoterFree: api.VoterHolds},
		"Return":  {api.VoterHolds: api.VoterFree},
		"Vote":    {api.VoterHolds: api.VoterVoted},
		"Strike":  {api.VoterFree: api.VoterStruck},
		"Restore": {api.VoterStruck: api.VoterFree},
	} {
		for state := uint8(1); state <= 4; state++ {
			l := []api.Voter{of("ann", 3, state)}
			if after[state] == 0 {
				checkOperation(t, operation, l, "ann", nil, api.ErrState)
			} else {
				checkOperation(t, operation, l, "ann", []api.Voter{of("ann", 3, after[state])}, api.OK)
			}
		}
	}
}

// All operations at all states of two voters: no other voter, and neither name nor precinct, is changed.
func TestP24_2OperationsChangeOneVoter(t *testing.T) {
	for operation := range operations() {
		before, after := modelStep(operation)
		for state := uint8(1); state <= 4; state++ {
			for other := uint8(1); other <= 4; other++ {
				l := []api.Voter{of("ann", 5, state), of("bob", 2, other)}
				if state == before {
					checkOperation(t, operation, l, "ann", []api.Voter{of("ann", 5, after), of("bob", 2, other)}, api.OK)
				} else {
					checkOperation(t, operation, l, "ann", nil, api.ErrState)
				}
				if other == before {
					checkOperation(t, operation, l, "bob", []api.Voter{of("ann", 5, state), of("bob", 2, after)}, api.OK)
				} else {
					checkOperation(t, operation, l, "bob", nil, api.ErrState)
				}
				checkOperation(t, operation, l, "cy", nil, api.ErrNone)
			}
		}
	}
}

// Each voter of each roll, so the first, those in the middle and the last.
func TestP24_2OperationsAtEachPlace(t *testing.T) {
	for operation := range operations() {
		before, after := modelStep(operation)
		for _, l := range [][]api.Voter{town(), many(1), many(2), many(3), many(33), many(64), longest()} {
			for at, v := range l {
				for state := uint8(1); state <= 4; state++ {
					start := with(l, func(l []api.Voter) { l[at].State = state })
					if state == before {
						checkOperation(t, operation, start, v.Name, with(l, func(l []api.Voter) { l[at].State = after }), api.OK)
					} else {
						checkOperation(t, operation, start, v.Name, nil, api.ErrState)
					}
				}
			}
		}
	}
}

// absent returns names, right and wrong ones, that nobody has in town.
func absent() []string {
	return append(wrongNames(), "!", "zoe", "Zo", "Zoe2", "ann2", "an", "nn", "Ann", "bo", "bobb", "bobby2", "ann ", "annbob", "c", "cyd", "d", "~",
		strings.Repeat("n", 40), strings.Repeat("~", 40), strings.Repeat("ann", 100000))
}

func TestP24_2OperationsOnNobody(t *testing.T) {
	for operation := range operations() {
		before, _ := modelStep(operation)
		for _, name := range absent() {
			checkOperation(t, operation, nil, name, nil, api.ErrNone)
			checkOperation(t, operation, []api.Voter{}, name, nil, api.ErrNone)
			checkOperation(t, operation, town(), name, nil, api.ErrNone)
			checkOperation(t, operation, many(64), name, nil, api.ErrNone)
			checkOperation(t, operation, with(town(), func(l []api.Voter) { // all could do it
				for i := range l {
					l[i].State = before
				}
			}), name, nil, api.ErrNone)
		}
	}
}

// What lies behind the length of the list is no voter.
func TestP24_2OperationsIgnoreCapacity(t *testing.T) {
	for operation := range operations() {
		before, after := modelStep(operation)
		l := []api.Voter{of("ann", 0, before), of("bob", 0, before), of("cy", 0, before)}
		checkOperation(t, operation, l[:1], "bob", nil, api.ErrNone)
		checkOperation(t, operation, l[:0], "ann", nil, api.ErrNone)
		checkOperation(t, operation, l[:1], "ann", []api.Voter{of("ann", 0, after)}, api.OK)
	}
}

func TestP24_2OperationsOnRandomRolls(t *testing.T) {
	random := rand.New(rand.NewSource(2404))
	seen := map[api.Errno]int{}
	for range 10000 {
		l := randomRoll(random, 8)
		if random.Intn(4) == 0 {
			l = spoilt(random, l)
		}
		name := randomName(random, true)
		if len(l) > 0 && random.Intn(4) > 0 {
			name = l[random.Intn(len(l))].Name
		}
		for operation := range operations() {
			want, wantE := modelOperate(operation, l, name)
			checkOperation(t, operation, l, name, want, wantE)
			seen[wantE]++
		}
	}
	for _, e := range []api.Errno{api.OK, api.ErrMany, api.ErrNone, api.ErrBad, api.ErrState} {
		if seen[e] < 100 {
			t.Errorf("the calls have the errors %v", seen)
		}
	}
}
