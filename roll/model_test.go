package roll_test

import (
	"bytes"
	"math/rand"
	"regexp"
	"slices"
	"strconv"
	"strings"

	"suffrage/api"
)

// The model follows the words of the document: its table of the operations is the document's, written as text, names are told by a pattern, and a roll is found by sorting what it holds.

const modelTable = `
Issue | VoterFree | VoterHolds
Return | VoterHolds | VoterFree
Vote | VoterHolds | VoterVoted
Strike | VoterFree | VoterStruck
Restore | VoterStruck | VoterFree
`

// modelStates are the states by the names that the document gives them.
func modelStates() map[string]uint8 {
	return map[string]uint8{"VoterFree": 1, "VoterHolds": 2, "VoterVoted": 3, "VoterStruck": 4}
}

// modelStep returns the state before and the state after an operation.
func modelStep(operation string) (before, after uint8) {
	for line := range strings.Lines(strings.TrimSpace(modelTable)) {
		if columns := strings.Split(strings.TrimSpace(line), " | "); columns[0] == operation {
			return modelStates()[columns[1]], modelStates()[columns[2]]
		}
	}
	panic(operation)
}

// modelNames is the pattern of names; ! is byte 33 and ~ is byte 126.
var modelNames = regexp.MustCompile(`\A[!-~]{1,40}\z`)

func modelValid(v api.Voter) bool {
	return modelNames.MatchString(v.Name) && slices.Contains([]int{0, 1, 2, 3, 4, 5, 6, 7}, v.Precinct) && slices.Contains([]uint8{1, 2, 3, 4}, v.State)
}

func modelCheck(l []api.Voter) api.Errno {
	if len(l) > 64 {
		return api.ErrMany
	}
	seen := map[string]bool{}
	var names []string
	for _, v := range l {
		if !modelValid(v) || seen[v.Name] {
			return api.ErrBad
		}
		seen[v.Name] = true
		names = append(names, v.Name)
	}
	if slices.Sort(names); !slices.EqualFunc(names, l, func(name string, v api.Voter) bool { return name == v.Name }) {
		return api.ErrBad
	}
	return api.OK
}

// modelWith returns the roll in which the voter of v's name is v, whether there was one or not.
func modelWith(l []api.Voter, v api.Voter) []api.Voter {
	voters := map[string]api.Voter{v.Name: v}
	for _, other := range l {
		if other.Name != v.Name {
			voters[other.Name] = other
		}
	}
	var names []string
	for name := range voters {
		names = append(names, name)
	}
	slices.Sort(names)
	var changed []api.Voter
	for _, name := range names {
		changed = append(changed, voters[name])
	}
	return changed
}

func modelFind(l []api.Voter, name string) (api.Voter, api.Errno) {
	if e := modelCheck(l); e != api.OK {
		return api.Voter{}, e
	}
	for _, v := range l {
		if v.Name == name {
			return v, api.OK
		}
	}
	return api.Voter{}, api.ErrNone
}

func modelAdd(l []api.Voter, name string, precinct int) ([]api.Voter, api.Errno) {
	_, e := modelFind(l, name)
	v := api.Voter{Name: name, Precinct: precinct, State: 1}
	switch {
	case e == api.ErrMany || e == api.ErrBad:
		return nil, e
	case !modelValid(v):
		return nil, api.ErrArg
	case e == api.OK:
		return nil, api.ErrAgain
	case len(l) == 64:
		return nil, api.ErrFull
	}
	return modelWith(l, v), api.OK
}

func modelOperate(operation string, l []api.Voter, name string) ([]api.Voter, api.Errno) {
	v, e := modelFind(l, name)
	if e != api.OK {
		return nil, e
	}
	before, after := modelStep(operation)
	if v.State != before {
		return nil, api.ErrState
	}
	v.State = after
	return modelWith(l, v), api.OK
}

func modelCount(l []api.Voter, precinct int) (api.Turnout, api.Errno) {
	if e := modelCheck(l); e != api.OK {
		return api.Turnout{}, e
	}
	if precinct < -1 || precinct > 7 {
		return api.Turnout{}, api.ErrArg
	}
	many := func(state string) int {
		n := 0
		for _, v := range l {
			if v.State == modelStates()[state] && (precinct < 0 || v.Precinct == precinct) {
				n++
			}
		}
		return n
	}
	return api.Turnout{Free: many("VoterFree"), Holds: many("VoterHolds"), Voted: many("VoterVoted"), Struck: many("VoterStruck")}, api.OK
}

// modelField returns a byte string as a field.
func modelField(s string) string {
	return string([]byte{byte(len(s) / 256), byte(len(s) % 256)}) + s
}

// encoded returns the fields of voters, valid or not; of a precinct only the last byte.
func encoded(l []api.Voter) []byte {
	s := ""
	for _, v := range l {
		s += modelField(string([]byte{byte(v.Precinct), v.State}) + v.Name)
	}
	return []byte(s)
}

func modelBytes(l []api.Voter) ([]byte, api.Errno) {
	if e := modelCheck(l); e != api.OK {
		return nil, e
	}
	return encoded(l), api.OK
}

// modelSplit returns the byte strings of the fields of which b is the concatenation.
func modelSplit(b []byte) ([]string, api.Errno) {
	if len(b) > 16384 {
		return nil, api.ErrMany
	}
	var l []string
	for len(b) > 0 {
		if len(b) < 2 || len(b) < 2+256*int(b[0])+int(b[1]) {
			return nil, api.ErrShort
		}
		end := 2 + 256*int(b[0]) + int(b[1])
		l = append(l, string(b[2:end]))
		b = b[end:]
	}
	return l, api.OK
}

// modelRead returns the roll of which b is the encoding: what the fields of b may express, if its encoding is b.
func modelRead(b []byte) ([]api.Voter, api.Errno) {
	fields, e := modelSplit(b)
	if e != api.OK {
		return nil, e
	}
	var l []api.Voter
	for _, field := range fields {
		if len(field) > 2 {
			l = append(l, api.Voter{Name: field[2:], Precinct: int(field[0]), State: field[1]})
		}
	}
	if again, e := modelBytes(l); e != api.OK || !bytes.Equal(again, b) {
		return nil, api.ErrForm
	}
	return l, api.OK
}

func modelSame(a, b []api.Voter) bool {
	if len(a) != len(b) {
		return false
	}
	for i := range a {
		if a[i].Name != b[i].Name || a[i].Precinct != b[i].Precinct || a[i].State != b[i].State {
			return false
		}
	}
	return true
}

// randomName returns a name, of few different ones if short is set.
func randomName(random *rand.Rand, short bool) string {
	size, first, last := 1+random.Intn(40), 33, 126
	if short {
		size, first, last = 1+random.Intn(2), 'a', 'c'
	}
	b := make([]byte, size)
	for i := range b {
		b[i] = byte(first + random.Intn(last-first+1))
	}
	return string(b)
}

// randomRoll returns a roll of at most so many voters.
func randomRoll(random *rand.Rand, most int) []api.Voter {
	var l []api.Voter
	short := random.Intn(3) == 0
	for range random.Intn(most + 1) {
		l = modelWith(l, api.Voter{Name: randomName(random, short), Precinct: random.Intn(8), State: uint8(1 + random.Intn(4))})
	}
	return l
}

// spoilt returns l with a change, after which it often is no roll.
func spoilt(random *rand.Rand, l []api.Voter) []api.Voter {
	l = slices.Clone(l)
	if len(l) == 0 {
		return append(l, api.Voter{})
	}
	at, other := random.Intn(len(l)), random.Intn(len(l))
	names := []string{"", " ", "a b", "a\n", "\x00", "\x7f", "\x80", "\xff", "\u00e9", strings.Repeat("n", 40), strings.Repeat("n", 41), "!", "~", "a"}
	switch random.Intn(7) {
	case 0:
		l[at].Name = names[random.Intn(len(names))]
	case 1:
		l[at].Name = l[other].Name
	case 2:
		l[at], l[other] = l[other], l[at]
	case 3:
		l[at].Precinct = []int{-257, -256, -2, -1, 0, 7, 8, 9, 255, 256, 257, 263, 1 << 32}[random.Intn(13)]
	case 4:
		l[at].State = uint8(random.Intn(256))
	case 5:
		l = slices.Insert(l, at, l[other])
	case 6:
		for i := range random.Intn(70) {
			l = append(l, api.Voter{Name: "~" + strconv.Itoa(100+i), Precinct: 7, State: 1})
		}
	}
	return l
}
