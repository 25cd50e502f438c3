package roll_test

import (
	"math/rand"
	"testing"

	"suffrage/api"
	"suffrage/roll"
)

// P24.1: Find

func TestP24_1Find(t *testing.T) {
	checkFind(t, town(), "Zoe", of("Zoe", 0, 1), api.OK)
	checkFind(t, town(), "ann", of("ann", 1, 2), api.OK)
	checkFind(t, town(), "bob", of("bob", 1, 3), api.OK)
	checkFind(t, town(), "bobby", of("bobby", 7, 4), api.OK)
	checkFind(t, town(), "cy", of("cy", 0, 2), api.OK)
}

func TestP24_1FindAtEachPlace(t *testing.T) {
	for _, l := range [][]api.Voter{many(1), many(2), many(3), many(31), many(63), many(64), longest()} {
		for _, v := range l {
			checkFind(t, l, v.Name, v, api.OK)
		}
	}
}

// Also between two others, where a name that begins like one of them would stand.
func TestP24_1FindOfNobody(t *testing.T) {
	for _, name := range absent() {
		checkFind(t, nil, name, api.Voter{}, api.ErrNone)
		checkFind(t, []api.Voter{}, name, api.Voter{}, api.ErrNone)
		checkFind(t, town(), name, api.Voter{}, api.ErrNone)
	}
	for _, l := range [][]api.Voter{many(64), longest()} {
		for _, v := range l {
			for _, name := range []string{v.Name + "!", v.Name + " ", " " + v.Name, v.Name[:5], v.Name[:1], v.Name[1:], v.Name + v.Name} {
				checkFind(t, l, name, api.Voter{}, api.ErrNone)
			}
		}
	}
	for at := range 64 { // each voter of a full roll is missing in turn
		l := with(many(64), func(l []api.Voter) { l[at].Name += "x" })
		checkFind(t, l, many(64)[at].Name, api.Voter{}, api.ErrNone)
		checkFind(t, l, l[at].Name, l[at], api.OK)
	}
}

func TestP24_1FindIgnoresCapacity(t *testing.T) {
	checkFind(t, town()[:2], "bob", api.Voter{}, api.ErrNone)
	checkFind(t, town()[:2], "ann", of("ann", 1, 2), api.OK)
	checkFind(t, town()[:0], "Zoe", api.Voter{}, api.ErrNone)
}

func TestP24_1FindInRandomRolls(t *testing.T) {
	random := rand.New(rand.NewSource(2405))
	for range 20000 {
		l := randomRoll(random, 8)
		if random.Intn(4) == 0 {
			l = spoilt(random, l)
		}
		name := randomName(random, true)
		if len(l) > 0 && random.Intn(2) > 0 {
			name = l[random.Intn(len(l))].Name
		}
		want, wantE := modelFind(l, name)
		checkFind(t, l, name, want, wantE)
	}
}

// P24.1: Count

func TestP24_1Count(t *testing.T) {
	checkCount(t, town(), -1, api.Turnout{Free: 1, Holds: 2, Voted: 1, Struck: 1}, api.OK)
	checkCount(t, town(), 0, api.Turnout{Free: 1, Holds: 1}, api.OK)
	checkCount(t, town(), 1, api.Turnout{Holds: 1, Voted: 1}, api.OK)
	checkCount(t, town(), 7, api.Turnout{Struck: 1}, api.OK)
	for precinct := 2; precinct <= 6; precinct++ {
		checkCount(t, town(), precinct, api.Turnout{}, api.OK)
	}
}

func TestP24_1CountOfNobody(t *testing.T) {
	for precinct := -1; precinct <= 7; precinct++ {
		checkCount(t, nil, precinct, api.Turnout{}, api.OK)
		checkCount(t, []api.Voter{}, precinct, api.Turnout{}, api.OK)
		checkCount(t, town()[:0], precinct, api.Turnout{}, api.OK)
	}
}

// One voter of each state in each precinct.
func TestP24_1CountOfOneVoter(t *testing.T) {
	turnouts := map[uint8]api.Turnout{api.VoterFree: {Free: 1}, api.VoterHolds: {Holds: 1}, api.VoterVoted: {Voted: 1}, api.VoterStruck: {Struck: 1}}
	for state, want := range turnouts {
		for home := range 8 {
			l := []api.Voter{of("ann", home, state)}
			checkCount(t, l, -1, want, api.OK)
			for precinct := range 8 {
				if precinct == home {
					checkCount(t, l, precinct, want, api.OK)
				} else {
					checkCount(t, l, precinct, api.Turnout{}, api.OK)
				}
			}
		}
	}
}

func TestP24_1CountOfManyVoters(t *testing.T) {
	checkCount(t, many(64), -1, api.Turnout{Free: 16, Holds: 16, Voted: 16, Struck: 16}, api.OK)
	for precinct := range 8 {
		checkCount(t, many(64), precinct, api.Turnout{Free: 2, Holds: 2, Voted: 2, Struck: 2}, api.OK)
	}
	l := many(64)
	for i := range l {
		l[i].State, l[i].Precinct = 3, 5
	}
	checkCount(t, l, -1, api.Turnout{Voted: 64}, api.OK)
	checkCount(t, l, 5, api.Turnout{Voted: 64}, api.OK)
	checkCount(t, l, 4, api.Turnout{}, api.OK)
}

func TestP24_1CountOfWrongPrecincts(t *testing.T) {
	for _, precinct := range wrongPrecincts() {
		if precinct == -1 {
			continue // which is all of them
		}
		for _, l := range [][]api.Voter{nil, {}, town(), many(64)} {
			checkCount(t, l, precinct, api.Turnout{}, api.ErrArg)
		}
	}
}

func TestP24_1CountInRandomRolls(t *testing.T) {
	random := rand.New(rand.NewSource(2406))
	for range 1000 {
		l := randomRoll(random, 64)
		if random.Intn(4) == 0 {
			l = spoilt(random, l)
		}
		for precinct := -2; precinct <= 8; precinct++ {
			want, wantE := modelCount(l, precinct)
			checkCount(t, l, precinct, want, wantE)
		}
	}
}

// All precincts together make what -1 answers, and that is every voter.
func TestP24_1CountOfAllPrecincts(t *testing.T) {
	random := rand.New(rand.NewSource(2407))
	for range 1000 {
		l := randomRoll(random, 64)
		var sum api.Turnout
		for precinct := range 8 {
			n, e := roll.Count(l, precinct)
			if e != api.OK {
				t.Errorf("Count(%s, %d): error %d", show(l), precinct, int(e))
			}
			sum.Free += n.Free
			sum.Holds += n.Holds
			sum.Voted += n.Voted
			sum.Struck += n.Struck
		}
		checkCount(t, l, -1, sum, api.OK)
		if sum.Free+sum.Holds+sum.Voted+sum.Struck != len(l) {
			t.Errorf("%s: %v are counted", show(l), sum)
		}
	}
}
