package roll_test

import (
	"math/rand"
	"slices"
	"strings"
	"testing"

	"suffrage/api"
)

// P24.1: Check

func TestP24_1Check(t *testing.T) {
	checkCheck(t, nil, api.OK)
	checkCheck(t, []api.Voter{}, api.OK)
	checkCheck(t, free("ann"), api.OK)
	checkCheck(t, free("ann", "bob"), api.OK)
	checkCheck(t, town(), api.OK)
	checkCheck(t, longest(), api.OK)
	checkCheck(t, []api.Voter{{}}, api.ErrBad)
	for _, l := range badLists() {
		checkCheck(t, l, api.ErrBad)
	}
}

func TestP24_1CheckOfManyVoters(t *testing.T) {
	for n := range 65 {
		checkCheck(t, many(n), api.OK)
	}
	for _, n := range []int{65, 66, 128, 256, 257, 320, 65536, 65600} {
		checkCheck(t, many(n), api.ErrMany)
		checkCheck(t, make([]api.Voter, n), api.ErrMany)
		for _, at := range []int{0, 1, 32, 63, 64, n - 1} {
			checkCheck(t, with(many(n), func(l []api.Voter) { l[at].Name = "" }), api.ErrMany)
			checkCheck(t, with(many(n), func(l []api.Voter) { l[at].Precinct = 8 }), api.ErrMany)
			checkCheck(t, with(many(n), func(l []api.Voter) { l[at].State = 0 }), api.ErrMany)
			checkCheck(t, with(many(n), func(l []api.Voter) { l[at].Name = l[n-at-1].Name }), api.ErrMany)
		}
	}
}

// What lies behind the length of the list is no voter.
func TestP24_1CheckIgnoresCapacity(t *testing.T) {
	checkCheck(t, many(65)[:64], api.OK)
	checkCheck(t, many(1000)[:0], api.OK)
	checkCheck(t, []api.Voter{of("bob", 1, 1), of("ann", 1, 1)}[:1], api.OK)
	checkCheck(t, make([]api.Voter, 64)[:0], api.OK)
	checkCheck(t, []api.Voter{of("", 1, 1), of("ann", 1, 1)}[:1], api.ErrBad)
}

// places returns rolls of n voters, for a few n, in which the voter at the index is changed: for the first, a middle and the last one.
func places(change func(v *api.Voter)) [][]api.Voter {
	var rolls [][]api.Voter
	for _, n := range []int{1, 2, 3, 5, 64} {
		for _, at := range slices.Compact([]int{0, n / 2, n - 1}) {
			rolls = append(rolls, with(many(n), func(l []api.Voter) { change(&l[at]) }))
		}
	}
	return rolls
}

func TestP24_1CheckOfNames(t *testing.T) {
	for _, name := range rightNames() {
		checkCheck(t, free(name), api.OK)
	}
	for _, name := range wrongNames() {
		for _, l := range places(func(v *api.Voter) { v.Name = name }) {
			checkCheck(t, l, api.ErrBad)
		}
		// behind and before other voters, so that the order is right
		checkCheck(t, free("!", "~"+name), modelCheck(free("!", "~"+name)))
		checkCheck(t, append([]api.Voter{of(name, 0, 1)}, of("\xff", 0, 1)), api.ErrBad)
	}
}

// The last name of each list is the greatest, whatever it is made of, so that the order is right.
func TestP24_1CheckOfWrongNamesInOrder(t *testing.T) {
	for _, name := range []string{"~\x7f", "~\x80", "~\xff", "\x7f", "\x80", "\xff", "~ ", "~" + strings.Repeat("n", 40)} {
		checkCheck(t, free("ann", "bob", name), api.ErrBad)
	}
	for _, name := range []string{"", "\x00", " ", "  ", "\x1f", " a", strings.Repeat("!", 41)} {
		checkCheck(t, free(name, "ann", "bob"), api.ErrBad)
		checkCheck(t, free("!", name, "~"), api.ErrBad)
	}
}

// Each of the 256 bytes, at each place of a name, is one of a name or not.
func TestP24_1CheckOfBytes(t *testing.T) {
	for b := range 256 {
		want := api.ErrBad
		if b >= 33 && b <= 126 {
			want = api.OK
		}
		for _, size := range []int{1, 2, 3, 40} {
			for at := range size {
				name := []byte(strings.Repeat("n", size))
				name[at] = byte(b)
				checkCheck(t, free(string(name)), want)
				if string(name) > "!" {
					checkCheck(t, free("!", string(name)), want)
				}
			}
		}
	}
}

func TestP24_1CheckOfLengths(t *testing.T) {
	for size := range 300 {
		want := api.ErrBad
		if size >= 1 && size <= 40 {
			want = api.OK
		}
		checkCheck(t, free(strings.Repeat("n", size)), want)
		checkCheck(t, free(strings.Repeat("n", size), "z"), want)
		checkCheck(t, free("!", strings.Repeat("n", size)), want)
	}
}

func TestP24_1CheckOfPrecincts(t *testing.T) {
	for precinct := range 8 {
		for _, l := range places(func(v *api.Voter) { v.Precinct = precinct }) {
			checkCheck(t, l, api.OK)
		}
	}
	for _, precinct := range wrongPrecincts() {
		for _, l := range places(func(v *api.Voter) { v.Precinct = precinct }) {
			checkCheck(t, l, api.ErrBad)
		}
	}
}

// The numbers of the states are those of package api.
func TestP24_1CheckOfStates(t *testing.T) {
	if api.VoterFree != 1 || api.VoterHolds != 2 || api.VoterVoted != 3 || api.VoterStruck != 4 {
		t.Error("a state has another number")
	}
	for state := range 256 {
		want := api.ErrBad
		if state >= 1 && state <= 4 {
			want = api.OK
		}
		for _, l := range places(func(v *api.Voter) { v.State = uint8(state) }) {
			checkCheck(t, l, want)
		}
	}
}

// Voters of one name differ in nothing, or in all else.
func TestP24_1CheckOfEqualNames(t *testing.T) {
	for _, second := range []api.Voter{of("ann", 1, 1), of("ann", 2, 1), of("ann", 1, 2), of("ann", 7, 4), of("ann", 0, 3)} {
		first := of("ann", 1, 1)
		checkCheck(t, []api.Voter{first, second}, api.ErrBad)
		checkCheck(t, []api.Voter{second, first}, api.ErrBad)
		checkCheck(t, []api.Voter{of("a", 1, 1), first, second}, api.ErrBad)
		checkCheck(t, []api.Voter{first, second, of("bob", 1, 1)}, api.ErrBad)
		checkCheck(t, []api.Voter{first, of("bob", 1, 1), second}, api.ErrBad)
	}
	for n := 2; n <= 64; n++ {
		for i := 1; i < n; i++ {
			checkCheck(t, with(many(n), func(l []api.Voter) { l[i].Name = l[i-1].Name }), api.ErrBad)
		}
		checkCheck(t, with(many(n), func(l []api.Voter) { l[n-1].Name = l[0].Name }), api.ErrBad)
	}
}

func TestP24_1CheckOfOrder(t *testing.T) {
	for n := 2; n <= 64; n++ {
		for i := 1; i < n; i++ {
			checkCheck(t, with(many(n), func(l []api.Voter) { l[i], l[i-1] = l[i-1], l[i] }), api.ErrBad)
		}
		checkCheck(t, with(many(n), func(l []api.Voter) { slices.Reverse(l) }), api.ErrBad)
		checkCheck(t, with(many(n), func(l []api.Voter) { l[0], l[n-1] = l[n-1], l[0] }), api.ErrBad)
	}
}

// The order is that of the bytes: neither that of the alphabet, nor that of numbers, nor that of lengths. A beginning of a name comes ahead of it.
func TestP24_1CheckOfByteOrder(t *testing.T) {
	for _, names := range [][]string{
		{"a", "aa", "aaa", "ab", "b"}, {"A", "B", "Z", "a", "b"}, {"Zoe", "ann"}, {"10", "2", "20", "3"}, {"!", "\"", "0", "A", "_", "a", "~"},
		{"ann", "ann!", "ann-2", "ann2", "anna"}, {"an", "ann"}, {"a~", "b"}, {"a", "a!"}, {strings.Repeat("n", 39), strings.Repeat("n", 40)},
		{strings.Repeat("~", 39) + "!", strings.Repeat("~", 39) + "\""}, {"~", "~~"},
	} {
		checkCheck(t, free(names...), api.OK)
		for i := range names {
			for j := range i {
				checkCheck(t, free(names[j], names[i]), api.OK)
				checkCheck(t, free(names[i], names[j]), api.ErrBad)
				checkCheck(t, with(free(names...), func(l []api.Voter) { l[i], l[j] = l[j], l[i] }), api.ErrBad)
			}
		}
	}
}

// Precincts and states are in any order.
func TestP24_1CheckOfOrderOfNamesAlone(t *testing.T) {
	for precinct := range 8 {
		for other := range 8 {
			for state := uint8(1); state <= 4; state++ {
				for another := uint8(1); another <= 4; another++ {
					checkCheck(t, []api.Voter{of("ann", precinct, state), of("bob", other, another)}, api.OK)
					checkCheck(t, []api.Voter{of("bob", precinct, state), of("ann", other, another)}, api.ErrBad)
				}
			}
		}
	}
}

func TestP24_1CheckOfRandomLists(t *testing.T) {
	random := rand.New(rand.NewSource(2401))
	seen := map[api.Errno]int{}
	for range 20000 {
		l := randomRoll(random, 12)
		checkCheck(t, l, api.OK)
		l = spoilt(random, l)
		checkCheck(t, l, modelCheck(l))
		seen[modelCheck(l)]++
	}
	if seen[api.OK] < 1000 || seen[api.ErrBad] < 1000 || seen[api.ErrMany] < 100 {
		t.Errorf("the lists have the errors %v", seen)
	}
}

// P24.1: every other function but Read returns the error of Check first, whatever else would be wrong.

func checkFirst(t *testing.T, l []api.Voter, want api.Errno) {
	t.Helper()
	checkCheck(t, l, want)
	for _, name := range []string{"ann", "bob", "nobody", "v10000", "v10063", "v10064", "", " ", strings.Repeat("n", 41), strings.Repeat("n", 1000)} {
		for _, precinct := range []int{-1, 0, 1, 7, 8, -2, 1 << 40} {
			checkAdd(t, l, name, precinct, nil, want)
			checkCount(t, l, precinct, api.Turnout{}, want)
		}
		for operation := range operations() {
			checkOperation(t, operation, l, name, nil, want)
		}
		checkFind(t, l, name, api.Voter{}, want)
	}
	checkBytes(t, l, "", want)
}

func TestP24_1ErrorOfCheckFirst(t *testing.T) {
	for _, l := range badLists() {
		checkFirst(t, l, api.ErrBad)
	}
	for _, at := range []int{0, 31, 63} { // a full list
		checkFirst(t, with(many(64), func(l []api.Voter) { l[at].State = 0 }), api.ErrBad)
		checkFirst(t, with(many(64), func(l []api.Voter) { l[at].Precinct = -1 }), api.ErrBad)
		checkFirst(t, with(many(64), func(l []api.Voter) { l[at].Name = l[63-at].Name + "~" }), api.ErrBad)
	}
	for _, n := range []int{65, 66, 1000} {
		checkFirst(t, many(n), api.ErrMany)
		checkFirst(t, make([]api.Voter, n), api.ErrMany)
		checkFirst(t, with(many(n), func(l []api.Voter) { l[n-1].Name = "" }), api.ErrMany)
	}
}

// Read answers no error of Check.
func TestP24_1ReadHasErrorsOfItsOwn(t *testing.T) {
	for _, l := range badLists() {
		checkRead(t, encoded(l), nil, api.ErrForm)
	}
	checkRead(t, encoded(many(65)), nil, api.ErrForm)
}
