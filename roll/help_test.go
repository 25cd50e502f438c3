package roll_test

import (
	"fmt"
	"math"
	"slices"
	"strconv"
	"strings"
	"testing"

	"suffrage/api"
	"suffrage/roll"
)

// operations returns the five operations by their names.
func operations() map[string]func([]api.Voter, string) ([]api.Voter, api.Errno) {
	return map[string]func([]api.Voter, string) ([]api.Voter, api.Errno){
		"Issue": roll.Issue, "Return": roll.Return, "Vote": roll.Vote, "Strike": roll.Strike, "Restore": roll.Restore,
	}
}

// of returns a voter.
func of(name string, precinct int, state uint8) api.Voter {
	return api.Voter{Name: name, Precinct: precinct, State: state}
}

// free returns voters with these names in precinct 1, all of them free.
func free(names ...string) []api.Voter {
	var l []api.Voter
	for _, name := range names {
		l = append(l, of(name, 1, 1))
	}
	return l
}

// town returns a roll of voters of all states in some precincts.
func town() []api.Voter {
	return []api.Voter{of("Zoe", 0, 1), of("ann", 1, 2), of("bob", 1, 3), of("bobby", 7, 4), of("cy", 0, 2)}
}

// many returns n voters in order, of all precincts and states.
func many(n int) []api.Voter {
	var l []api.Voter
	for i := range n {
		l = append(l, of("v"+strconv.Itoa(10000+i), i%8, uint8(1+i/8%4)))
	}
	return l
}

// longest returns 64 voters in order, all of whose names have 40 bytes.
func longest() []api.Voter {
	l := many(64)
	for i := range l {
		l[i].Name += strings.Repeat("~", 34)
	}
	return l
}

// with returns a copy of l in which a change has been made.
func with(l []api.Voter, change func(l []api.Voter)) []api.Voter {
	l = slices.Clone(l)
	change(l)
	return l
}

// wrongNames are strings that are no names.
func wrongNames() []string {
	return []string{"", " ", "\x7f", "\x80", "\x1f", "\x00", "\n", "\xff", " a", "a ", "a b", "a\tb", "a\x00", "a\x7f", "\x7fa", "\x80a", "a\xa1", "\xa1\xfe",
		"\u00e9", "\u4e2d", strings.Repeat("n", 41), strings.Repeat("n", 42), strings.Repeat("n", 40) + " ", " " + strings.Repeat("n", 39),
		strings.Repeat("\u00e9", 20), strings.Repeat("n", 255), strings.Repeat("n", 257), strings.Repeat("n", 296), strings.Repeat("n", 65537)}
}

// rightNames are names.
func rightNames() []string {
	return []string{"a", "!", "~", "!~", "7", "-", "a.b", "Ann", "ANN", "ann-2", "\"", "\\", "x", strings.Repeat("n", 39), strings.Repeat("n", 40),
		strings.Repeat("!", 40), strings.Repeat("~", 40)}
}

// wrongPrecincts are numbers that are no precincts. The last byte of many of them is the number of one.
func wrongPrecincts() []int {
	return []int{-1, -2, -8, 8, 9, 10, 100, 255, 256, 257, 263, 264, 512, 65536, 65543, 1 << 32, 1<<32 + 7, -256, -255, -249, -1 << 32, 1<<63 - 256,
		math.MaxInt, math.MaxInt - 1, math.MinInt, math.MinInt + 1, math.MinInt + 7}
}

// badLists returns lists that are no rolls, by what is wrong with them. Ann is there in most.
func badLists() map[string][]api.Voter {
	return map[string][]api.Voter{
		"an empty name":       {of("", 0, 1), of("ann", 0, 1)},
		"a name with a blank": {of("ann", 0, 1), of("bo b", 0, 1)},
		"a long name":         {of("ann", 0, 1), of(strings.Repeat("n", 41), 0, 1)},
		"precinct -1":         {of("ann", -1, 1)},
		"precinct 8":          {of("ann", 1, 1), of("bob", 8, 1)},
		"state 0":             {of("ann", 1, 0)},
		"state 5":             {of("ann", 1, 1), of("bob", 1, 5), of("cy", 1, 1)},
		"a name twice":        {of("ann", 1, 1), of("ann", 2, 2)},
		"falling names":       {of("bob", 1, 1), of("ann", 1, 1)},
		"zero values":         make([]api.Voter, 64),
	}
}

// show returns the start of a text of l, which may be long.
func show(l []api.Voter) string {
	s := strconv.Itoa(len(l)) + " voters:"
	for _, v := range l[:min(len(l), 10)] {
		s += fmt.Sprintf(" %.60q %d %d,", v.Name, v.Precinct, v.State)
	}
	return s
}

// shown is a list that is shown when it is printed.
type shown []api.Voter

func (l shown) String() string { return show(l) }

func checkCheck(t *testing.T, l []api.Voter, want api.Errno) {
	t.Helper()
	if e := roll.Check(l); e != want {
		t.Errorf("Check(%s) = %d; want %d", show(l), int(e), int(want))
	}
}

// checkRoll reports what a call, which is told by format and args, should have returned: a roll, or nothing beside an error.
func checkRoll(t *testing.T, got []api.Voter, e api.Errno, want []api.Voter, wantE api.Errno, format string, args ...any) {
	t.Helper()
	if e != wantE || !modelSame(got, want) {
		t.Errorf("%s = %s, %d; want %s, %d", fmt.Sprintf(format, args...), show(got), int(e), show(want), int(wantE))
	}
}

func checkAdd(t *testing.T, l []api.Voter, name string, precinct int, want []api.Voter, wantE api.Errno) {
	t.Helper()
	got, e := roll.Add(l, name, precinct)
	checkRoll(t, got, e, want, wantE, "Add(%s, %.60q, %d)", shown(l), name, precinct)
}

func checkOperation(t *testing.T, operation string, l []api.Voter, name string, want []api.Voter, wantE api.Errno) {
	t.Helper()
	got, e := operations()[operation](l, name)
	checkRoll(t, got, e, want, wantE, "%s(%s, %.60q)", operation, shown(l), name)
}

func checkFind(t *testing.T, l []api.Voter, name string, want api.Voter, wantE api.Errno) {
	t.Helper()
	if v, e := roll.Find(l, name); v != want || e != wantE {
		t.Errorf("Find(%s, %.60q) = %v, %d; want %v, %d", show(l), name, v, int(e), want, int(wantE))
	}
}

func checkCount(t *testing.T, l []api.Voter, precinct int, want api.Turnout, wantE api.Errno) {
	t.Helper()
	if n, e := roll.Count(l, precinct); n != want || e != wantE {
		t.Errorf("Count(%s, %d) = %v, %d; want %v, %d", show(l), precinct, n, int(e), want, int(wantE))
	}
}

// checkBytes takes the encoding as a text, which is empty beside an error.
func checkBytes(t *testing.T, l []api.Voter, want string, wantE api.Errno) {
	t.Helper()
	if b, e := roll.Bytes(l); string(b) != want || e != wantE {
		t.Errorf("Bytes(%s) = %.200q, %d; want %.200q, %d", show(l), b, int(e), want, int(wantE))
	}
}

func checkRead(t *testing.T, b []byte, want []api.Voter, wantE api.Errno) {
	t.Helper()
	l, e := roll.Read(b)
	checkRoll(t, l, e, want, wantE, "Read(%.200q)", b)
}

// checkAll holds every call but Read against the model, with the same list and name.
func checkAll(t *testing.T, l []api.Voter, name string, precinct int) {
	t.Helper()
	checkCheck(t, l, modelCheck(l))
	want, wantE := modelAdd(l, name, precinct)
	checkAdd(t, l, name, precinct, want, wantE)
	for operation := range operations() {
		want, wantE := modelOperate(operation, l, name)
		checkOperation(t, operation, l, name, want, wantE)
	}
	v, findE := modelFind(l, name)
	checkFind(t, l, name, v, findE)
	n, countE := modelCount(l, precinct)
	checkCount(t, l, precinct, n, countE)
	b, bytesE := modelBytes(l)
	checkBytes(t, l, string(b), bytesE)
}
