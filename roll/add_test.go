package roll_test

import (
	"math/rand"
	"slices"
	"strings"
	"testing"

	"suffrage/api"
	"suffrage/roll"
)

// P24.2: Add

func TestP24_2Add(t *testing.T) {
	checkAdd(t, nil, "bob", 1, free("bob"), api.OK)
	checkAdd(t, []api.Voter{}, "bob", 1, free("bob"), api.OK)
	checkAdd(t, free("bob"), "ann", 1, free("ann", "bob"), api.OK)
	checkAdd(t, free("ann"), "bob", 1, free("ann", "bob"), api.OK)
	checkAdd(t, free("ann", "bob"), "amy", 1, free("amy", "ann", "bob"), api.OK)
	checkAdd(t, free("ann", "bob"), "ann2", 1, free("ann", "ann2", "bob"), api.OK)
	checkAdd(t, free("ann", "bob"), "cy", 1, free("ann", "bob", "cy"), api.OK)
}

// Each voter of a roll is taken out and added again, with its precinct; the others keep what they are.
func TestP24_2AddAtEachPlace(t *testing.T) {
	for _, whole := range [][]api.Voter{town(), many(1), many(2), many(40), many(64), longest()} {
		for at, v := range whole {
			rest := slices.Delete(slices.Clone(whole), at, at+1)
			want := with(whole, func(l []api.Voter) { l[at].State = 1 })
			checkAdd(t, rest, v.Name, v.Precinct, want, api.OK)
		}
	}
}

// The place is that of the bytes of the name.
func TestP24_2AddInByteOrder(t *testing.T) {
	names := []string{"!", "!~", "10", "2", "A", "Z", "Zoe", "a", "ann", "ann!", "ann2", "anna", "b", strings.Repeat("n", 39), strings.Repeat("n", 40), "z", "~", "~!"}
	for at, name := range names {
		rest := slices.Delete(slices.Clone(names), at, at+1)
		checkAdd(t, free(rest...), name, 1, free(names...), api.OK)
	}
	random := rand.New(rand.NewSource(2402))
	for range 100 {
		var l []api.Voter
		for _, i := range random.Perm(len(names)) {
			added, e := roll.Add(l, names[i], 1)
			checkRoll(t, added, e, modelWith(l, of(names[i], 1, 1)), api.OK, "Add of %q", names[i])
			l = added
		}
		checkRoll(t, l, api.OK, free(names...), api.OK, "all of %q", names)
	}
}

// The state of the new voter is VoterFree, whatever those of the others are.
func TestP24_2AddsAFreeVoter(t *testing.T) {
	for precinct := range 8 {
		for state := uint8(1); state <= 4; state++ {
			l := []api.Voter{of("ann", precinct, state), of("cy", 7-precinct, state)}
			for _, name := range []string{"amy", "bob", "dan"} {
				checkAdd(t, l, name, precinct, modelWith(l, of(name, precinct, 1)), api.OK)
				checkAdd(t, l, name, 7-precinct, modelWith(l, of(name, 7-precinct, api.VoterFree)), api.OK)
			}
		}
	}
}

func TestP24_2AddOfRightAndWrongNames(t *testing.T) {
	for _, name := range rightNames() {
		for _, l := range [][]api.Voter{nil, town(), many(63)} {
			checkAdd(t, l, name, 3, modelWith(l, of(name, 3, 1)), api.OK)
		}
	}
	for _, name := range wrongNames() {
		for _, l := range [][]api.Voter{nil, town(), many(63), many(64)} {
			checkAdd(t, l, name, 3, nil, api.ErrArg)
		}
	}
	for b := range 256 {
		for _, name := range []string{string([]byte{byte(b)}), string([]byte{byte(b), 'q', 'q'}), string([]byte{'q', byte(b), 'q'}), string([]byte{'q', 'q', byte(b)})} {
			want, wantE := modelAdd(town(), name, 0)
			if (wantE == api.OK) != (b >= 33 && b <= 126) {
				t.Errorf("the model adds %q with %d", name, int(wantE))
			}
			checkAdd(t, town(), name, 0, want, wantE)
		}
	}
	for size := range 300 {
		name := strings.Repeat("n", size)
		want, wantE := modelAdd(town(), name, 0)
		if (wantE == api.OK) != (size >= 1 && size <= 40) {
			t.Errorf("the model adds a name of %d bytes with %d", size, int(wantE))
		}
		checkAdd(t, town(), name, 0, want, wantE)
	}
}

func TestP24_2AddOfRightAndWrongPrecincts(t *testing.T) {
	for precinct := range 8 {
		for _, l := range [][]api.Voter{nil, town(), many(63)} {
			checkAdd(t, l, "carl", precinct, modelWith(l, of("carl", precinct, 1)), api.OK)
		}
	}
	for _, precinct := range wrongPrecincts() {
		for _, l := range [][]api.Voter{nil, town(), many(63), many(64)} {
			checkAdd(t, l, "carl", precinct, nil, api.ErrArg)
		}
	}
}

// ErrArg is named first: also for a voter who is there, and where the roll is full.
func TestP24_2AddOfWrongVotersFirst(t *testing.T) {
	for _, precinct := range wrongPrecincts() {
		for _, v := range town() {
			checkAdd(t, town(), v.Name, precinct, nil, api.ErrArg)
		}
		checkAdd(t, many(64), "v10000", precinct, nil, api.ErrArg)
		checkAdd(t, many(64), "v10063", precinct, nil, api.ErrArg)
		checkAdd(t, many(64), "v10064", precinct, nil, api.ErrArg)
		for _, name := range wrongNames() {
			checkAdd(t, many(64), name, precinct, nil, api.ErrArg)
			checkAdd(t, nil, name, precinct, nil, api.ErrArg)
		}
	}
}

// The same name, with the same precinct and with each other one, in each state: the first, a middle and the last voter, of a full roll too.
func TestP24_2AddAgain(t *testing.T) {
	for _, l := range [][]api.Voter{free("ann"), town(), many(63), many(64), longest()} {
		for _, at := range []int{0, len(l) / 2, len(l) - 1} {
			for precinct := range 8 {
				for state := uint8(1); state <= 4; state++ {
					checkAdd(t, with(l, func(l []api.Voter) { l[at].State = state }), l[at].Name, precinct, nil, api.ErrAgain)
				}
			}
		}
	}
}

func TestP24_2AddToAFullRoll(t *testing.T) {
	for _, l := range [][]api.Voter{many(64), longest()} {
		for _, name := range []string{"!", "a", "v", "v1", "v10031~", "v10064", "w", "~", strings.Repeat("n", 40)} {
			for precinct := range 8 {
				checkAdd(t, l, name, precinct, nil, api.ErrFull)
			}
		}
	}
	for n := range 64 { // all that are not full
		checkAdd(t, many(n), "v20000", 5, append(many(n), of("v20000", 5, 1)), api.OK)
		checkAdd(t, many(n), "v0", 5, append([]api.Voter{of("v0", 5, 1)}, many(n)...), api.OK)
	}
}

// Room behind the length of a full roll is no room.
func TestP24_2AddIgnoresCapacity(t *testing.T) {
	checkAdd(t, many(100)[:64], "w", 1, nil, api.ErrFull)
	checkAdd(t, many(100)[:63], "w", 1, append(many(63), of("w", 1, 1)), api.OK)
	checkAdd(t, town()[:2], "bob", 4, append(town()[:2], of("bob", 4, 1)), api.OK)
	checkAdd(t, town()[:0], "ann", 4, []api.Voter{of("ann", 4, 1)}, api.OK)
}

func TestP24_2AddToRandomRolls(t *testing.T) {
	random := rand.New(rand.NewSource(2403))
	seen := map[api.Errno]int{}
	for range 20000 {
		l := randomRoll(random, 8)
		if random.Intn(4) == 0 {
			l = spoilt(random, l)
		}
		name := randomName(random, random.Intn(2) == 0)
		if random.Intn(4) == 0 {
			name += " "
		}
		precinct := random.Intn(9)
		want, wantE := modelAdd(l, name, precinct)
		checkAdd(t, l, name, precinct, want, wantE)
		seen[wantE]++
	}
	for _, e := range []api.Errno{api.OK, api.ErrArg, api.ErrMany, api.ErrBad, api.ErrAgain} {
		if seen[e] < 50 {
			t.Errorf("the calls have the errors %v", seen)
		}
	}
}
