package roll_test

import (
	"bytes"
	"math"
	"math/rand"
	"slices"
	"strings"
	"testing"
	"unsafe"

	"suffrage/api"
	"suffrage/roll"
)

// answer is all that a call returns, in one form for all calls.
type answer struct {
	l []api.Voter
	b []byte
	v api.Voter
	n api.Turnout
	e api.Errno
}

func (a answer) equal(b answer) bool {
	return modelSame(a.l, b.l) && bytes.Equal(a.b, b.b) && a.v == b.v && a.n == b.n && a.e == b.e
}

// twin returns a copy of a, with strings of its own.
func (a answer) twin() answer {
	a.l, a.b, a.v.Name = roomy(a.l), bytes.Clone(a.b), strings.Clone(a.v.Name)
	return a
}

// scribble overwrites the memory of a up to the capacities.
func (a answer) scribble() {
	scribbleVoters(a.l)
	scribbleBytes(a.b)
}

func scribbleVoters(l []api.Voter) {
	for i := range l[:cap(l)] {
		l[:cap(l)][i] = of("scribbled", 99, 99)
	}
}

func scribbleBytes(b []byte) {
	for i := range b[:cap(b)] {
		b[:cap(b)][i] ^= 0xa5
	}
}

// roomy returns l in memory of its own, with voters behind its length.
func roomy(l []api.Voter) []api.Voter {
	voters := make([]api.Voter, 0, len(l)+5)
	for _, v := range l {
		voters = append(voters, of(strings.Clone(v.Name), v.Precinct, v.State))
	}
	behind := append(voters, of("behind", 3, 2), of("", -1, 0), of("zz", 1, 1), of("ann", 1, 1), of("\x00", 9, 9))
	return behind[:len(l)]
}

// roomyBytes returns b in memory of its own, with a field behind its length.
func roomyBytes(b []byte) []byte {
	return append(bytes.Clone(b), "\x00\x05\x01\x01zoe\x00\x00"...)[:len(b)]
}

// call is a call with its arguments that have memory.
type call struct {
	name  string
	l     []api.Voter
	b     []byte
	voter string
	do    func(x call) answer
}

func checkCall(x call) answer { return answer{e: roll.Check(x.l)} }

func addCall(precinct int) func(call) answer {
	return func(x call) answer {
		l, e := roll.Add(x.l, x.voter, precinct)
		return answer{l: l, e: e}
	}
}

func operationCall(operation string) func(call) answer {
	return func(x call) answer {
		l, e := operations()[operation](x.l, x.voter)
		return answer{l: l, e: e}
	}
}

func findCall(x call) answer {
	v, e := roll.Find(x.l, x.voter)
	return answer{v: v, e: e}
}

func countCall(precinct int) func(call) answer {
	return func(x call) answer {
		n, e := roll.Count(x.l, precinct)
		return answer{n: n, e: e}
	}
}

func bytesCall(x call) answer {
	b, e := roll.Bytes(x.l)
	return answer{b: b, e: e}
}

func readCall(x call) answer {
	l, e := roll.Read(x.b)
	return answer{l: l, e: e}
}

// lists returns lists of all kinds by name, rolls and others.
func lists() map[string][]api.Voter {
	l := map[string][]api.Voter{"nobody": nil, "ann": free("ann"), "a town": town(), "a full roll": many(64), "the longest roll": longest(), "too many": many(65)}
	for name, bad := range badLists() {
		l[name] = bad
	}
	return l
}

// calls returns each of the package's calls, with arguments that have room behind them, right and wrong.
func calls() []call {
	var all []call
	for name, l := range lists() {
		all = append(all,
			call{name: "Check of " + name, l: roomy(l), do: checkCall},
			call{name: "Count in " + name, l: roomy(l), do: countCall(-1)},
			call{name: "Count of precinct 1 in " + name, l: roomy(l), do: countCall(1)},
			call{name: "Count of precinct 8 in " + name, l: roomy(l), do: countCall(8)},
			call{name: "Bytes of " + name, l: roomy(l), do: bytesCall},
			call{name: "Read of " + name, b: roomyBytes(encoded(l)), do: readCall},
			call{name: "Read of half a field behind " + name, b: roomyBytes(append(encoded(l), 0, 9, 'x')), do: readCall},
		)
		for _, voter := range []string{"ann", "bob", "Zoe", "cy", "bobby", "zz", "behind", "!", "v10000", "v10031", "", strings.Repeat("n", 41)} {
			all = append(all,
				call{name: "Add of " + voter + " to " + name, l: roomy(l), voter: strings.Clone(voter), do: addCall(1)},
				call{name: "Add of " + voter + " in no precinct to " + name, l: roomy(l), voter: strings.Clone(voter), do: addCall(-1)},
				call{name: "Find of " + voter + " in " + name, l: roomy(l), voter: strings.Clone(voter), do: findCall},
			)
			for operation := range operations() {
				all = append(all, call{name: operation + " of " + voter + " in " + name, l: roomy(l), voter: strings.Clone(voter), do: operationCall(operation)})
			}
		}
	}
	return append(all, call{name: "Read of too much", b: roomyBytes(make([]byte, 16385)), do: readCall})
}

// R1

// For each call, arguments with which several errors apply: the one that is named first is returned.
func TestR1ErrorsInOrder(t *testing.T) {
	tooMany, bad, full := with(many(65), func(l []api.Voter) { l[0].State = 0 }), with(many(64), func(l []api.Voter) { l[63].Precinct = 8 }), many(64)
	struck := with(many(64), func(l []api.Voter) { l[0].State = 4 })
	checkAdd(t, tooMany, "", -1, nil, api.ErrMany)
	checkAdd(t, bad, "", -1, nil, api.ErrBad)
	checkAdd(t, full, "", 1, nil, api.ErrArg)
	checkAdd(t, full, "v10000", 8, nil, api.ErrArg)
	checkAdd(t, full, "v10000", 1, nil, api.ErrAgain)
	checkAdd(t, full, "v1", 1, nil, api.ErrFull)
	for operation := range operations() {
		if operation != "Restore" {
			checkOperation(t, operation, struck, "v10000", nil, api.ErrState)
		}
		checkOperation(t, operation, tooMany, "nobody", nil, api.ErrMany)
		checkOperation(t, operation, bad, "nobody", nil, api.ErrBad)
		checkOperation(t, operation, full, "nobody", nil, api.ErrNone)
	}
	checkFind(t, tooMany, "nobody", api.Voter{}, api.ErrMany)
	checkFind(t, bad, "nobody", api.Voter{}, api.ErrBad)
	checkFind(t, full, "nobody", api.Voter{}, api.ErrNone)
	checkCount(t, tooMany, 8, api.Turnout{}, api.ErrMany)
	checkCount(t, bad, 8, api.Turnout{}, api.ErrBad)
	checkCount(t, full, 8, api.Turnout{}, api.ErrArg)
	checkBytes(t, tooMany, "", api.ErrMany)
	checkBytes(t, bad, "", api.ErrBad)
	checkRead(t, append(encoded(tooMany), make([]byte, 16385)...), nil, api.ErrMany)
	checkRead(t, append(encoded(tooMany), 0), nil, api.ErrShort)
	checkRead(t, append(encoded(bad), 0), nil, api.ErrShort)
	checkRead(t, encoded(tooMany), nil, api.ErrForm)
	checkRead(t, encoded(bad), nil, api.ErrForm)
}

func TestR1ErrorsHaveTheirNumbers(t *testing.T) {
	if api.ErrArg != 2 || api.ErrMany != 4 || api.ErrNone != 6 || api.ErrBad != 8 || api.ErrFull != 9 || api.ErrShort != 10 || api.ErrForm != 11 ||
		api.ErrAgain != 240 || api.ErrState != 241 {
		t.Error("an error has another number")
	}
}

func TestR1NothingBesideAnError(t *testing.T) {
	failed := map[api.Errno]int{}
	for _, x := range calls() {
		a := x.do(x)
		if a.e == api.OK {
			continue
		}
		failed[a.e]++
		if !a.equal(answer{e: a.e}) {
			t.Errorf("%s: %v beside an error", x.name, a)
		}
	}
	for _, e := range []api.Errno{api.ErrArg, api.ErrMany, api.ErrNone, api.ErrBad, api.ErrFull, api.ErrShort, api.ErrForm, api.ErrAgain, api.ErrState} {
		if failed[e] == 0 {
			t.Errorf("no call fails with %d", int(e))
		}
	}
}

// After a call that fails the roll is what it was, and the next call does what it would have done without it.
func TestR1AFailedCallHasNoEffect(t *testing.T) {
	for _, x := range calls() {
		before := slices.Clone(x.l[:cap(x.l)])
		if a := x.do(x); a.e == api.OK {
			continue
		}
		if !slices.Equal(before, x.l[:cap(x.l)]) {
			t.Errorf("%s changes its list", x.name)
		}
	}
	l := roomy(free("ann"))
	roll.Vote(l, "ann")
	roll.Restore(l, "ann")
	roll.Add(l, "ann", 1)
	checkOperation(t, "Issue", l, "ann", []api.Voter{of("ann", 1, 2)}, api.OK)
}

// R2

// memory returns a copy of all that a call's arguments hold, up to the capacities.
func memory(x call) (voters []api.Voter, b []byte) {
	for _, v := range x.l[:cap(x.l)] {
		voters = append(voters, of(strings.Clone(v.Name), v.Precinct, v.State))
	}
	return voters, bytes.Clone(x.b[:cap(x.b)])
}

func checkMemory(t *testing.T, x call, voters []api.Voter, b []byte) {
	t.Helper()
	if votersNow, bNow := memory(x); !slices.Equal(votersNow, voters) || !bytes.Equal(bNow, b) {
		t.Errorf("%s: the memory of an argument changes", x.name)
	}
}

func TestR2ArgumentsStay(t *testing.T) {
	for _, x := range calls() {
		voters, b := memory(x)
		x.do(x)
		checkMemory(t, x, voters, b)
	}
}

func TestR2AnswersShareNothingWithArguments(t *testing.T) {
	for _, x := range calls() {
		a := x.do(x)
		want := a.twin()
		voters, b := memory(x)
		a.scribble()
		checkMemory(t, x, voters, b)
		a = x.do(x)
		scribbleVoters(x.l)
		scribbleBytes(x.b)
		if !a.equal(want) {
			t.Errorf("%s: the answer changes with the arguments", x.name)
		}
	}
}

// overlap reports whether two strings, neither of them empty, share memory.
func overlap(a, b string) bool {
	i, j := uintptr(unsafe.Pointer(unsafe.StringData(a))), uintptr(unsafe.Pointer(unsafe.StringData(b)))
	return a != "" && b != "" && i < j+uintptr(len(b)) && j < i+uintptr(len(a))
}

// R2 holds for names too, though they cannot be changed.
func TestR2NamesAreNew(t *testing.T) {
	for _, x := range calls() {
		a := x.do(x)
		names := []string{a.v.Name}
		for _, v := range a.l {
			names = append(names, v.Name)
		}
		old := []string{x.voter, unsafe.String(unsafe.SliceData(x.b), len(x.b))}
		for _, v := range x.l[:cap(x.l)] {
			old = append(old, v.Name)
		}
		for i, name := range names {
			for _, s := range old {
				if overlap(name, s) {
					t.Errorf("%s: %q lies in an argument", x.name, name)
				}
			}
			for _, other := range names[:i] {
				if overlap(name, other) {
					t.Errorf("%s: %q and %q share memory", x.name, name, other)
				}
			}
		}
	}
}

// A second answer depends neither on the first, nor on what became of it, nor on calls between.
func TestR2NothingIsKept(t *testing.T) {
	all := calls()
	for i, x := range all {
		first := x.do(x)
		want := first.twin()
		first.scribble()
		for _, y := range all[max(0, i-5):min(len(all), i+6)] {
			y.do(y)
		}
		again := x.do(x)
		first.scribble()
		if !again.equal(want) {
			t.Errorf("%s: the second answer is %v; want %v", x.name, again, want)
		}
	}
}

// From one roll there may be several others, none of which knows of another.
func TestR2RollsGoTheirOwnWays(t *testing.T) {
	start := roomy(with(town(), func(l []api.Voter) { l[1].State = 2 }))
	voted, _ := roll.Vote(start, "ann")
	returned, _ := roll.Return(start, "ann")
	more, _ := roll.Add(start, "carl", 2)
	less, _ := roll.Add(start, "al", 2)
	struck, _ := roll.Strike(returned, "ann")
	state := func(l []api.Voter) uint8 {
		v, _ := roll.Find(l, "ann")
		return v.State
	}
	if state(start) != 2 || state(voted) != 3 || state(returned) != 1 || state(more) != 2 || state(less) != 2 || state(struck) != 4 {
		t.Errorf("the states are %d, %d, %d, %d, %d and %d", state(start), state(voted), state(returned), state(more), state(less), state(struck))
	}
	checkRoll(t, more, api.OK, modelWith(start, of("carl", 2, 1)), api.OK, "the roll with carl")
	checkRoll(t, less, api.OK, modelWith(start, of("al", 2, 1)), api.OK, "the roll with al")
	scribbleVoters(voted)
	scribbleVoters(more)
	checkRoll(t, start, api.OK, town(), api.OK, "the first roll")
}

// The answer of one call may be the argument of another, as may a part of it, with the rest in its capacity.
func TestR2OneMemory(t *testing.T) {
	l := many(64)
	for n := range 64 {
		after, e := roll.Add(l[:n], "w", 1)
		checkRoll(t, after, e, append(many(n), of("w", 1, 1)), api.OK, "Add to a part")
		after, e = roll.Add(l[:n], "a", 1)
		checkRoll(t, after, e, append(free("a"), many(n)...), api.OK, "Add to a part")
		checkRoll(t, l, api.OK, many(64), api.OK, "the whole")
	}
}

// R3

func TestR3NilAndEmptyAreEqual(t *testing.T) {
	for _, l := range [][]api.Voter{nil, {}, many(3)[:0], make([]api.Voter, 0, 9)} {
		checkAll(t, l, "ann", 3)
		checkAll(t, l, "", 3)
		checkCheck(t, l, api.OK)
		checkAdd(t, l, "ann", 3, []api.Voter{of("ann", 3, 1)}, api.OK)
		checkAdd(t, l, "", 3, nil, api.ErrArg)
		checkFind(t, l, "", api.Voter{}, api.ErrNone)
		checkCount(t, l, -1, api.Turnout{}, api.OK)
		checkBytes(t, l, "", api.OK)
	}
	for _, b := range [][]byte{nil, {}, encoded(town())[:0], make([]byte, 0, 9)} {
		checkRead(t, b, nil, api.OK)
	}
}

// A list without voters is not a list of a voter without a name.
func TestR3EmptyNamesAreNames(t *testing.T) {
	checkCheck(t, []api.Voter{{}}, api.ErrBad)
	checkCheck(t, []api.Voter{of("", 0, 1)}, api.ErrBad)
	checkRead(t, []byte{0, 2, 0, 1}, nil, api.ErrForm)
	checkRead(t, []byte{0, 0}, nil, api.ErrForm)
}

// R4

// The length of a field is two bytes, the most significant one first; the precinct and the state are one byte each, and in this order.
func TestR4MostSignificantFirst(t *testing.T) {
	for size := 1; size <= 40; size++ {
		name := strings.Repeat("n", size)
		checkBytes(t, []api.Voter{of(name, 4, 1)}, "\x00"+string(rune(size+2))+"\x04\x01"+name, api.OK)
	}
	checkRead(t, []byte("\x05\x00\x01\x01ann"), nil, api.ErrShort)
	name := strings.Repeat("n", 256)
	checkRead(t, []byte("\x01\x02\x01\x01"+name), nil, api.ErrForm)
	checkRead(t, []byte("\x02\x01\x01\x01"+name), nil, api.ErrShort)
	checkRead(t, []byte("\x00\x05\x03\x04ann"), []api.Voter{of("ann", 3, 4)}, api.OK)
	checkRead(t, []byte("\x00\x05\x04\x03ann"), []api.Voter{of("ann", 4, 3)}, api.OK)
	checkRead(t, []byte("\x00\x05\x05\x04ann"), []api.Voter{of("ann", 5, 4)}, api.OK)
	checkRead(t, []byte("\x00\x05\x04\x05ann"), nil, api.ErrForm)
}

// R5

// The voters are in the order of their names, in whatever order they are added.
func TestR5Order(t *testing.T) {
	random := rand.New(rand.NewSource(2415))
	for _, whole := range [][]api.Voter{many(64), longest(), town()} {
		for range 10 {
			var l []api.Voter
			for _, i := range random.Perm(len(whole)) {
				l, _ = roll.Add(l, whole[i].Name, whole[i].Precinct)
				if !slices.IsSortedFunc(l, func(v, w api.Voter) int { return bytes.Compare([]byte(v.Name), []byte(w.Name)) }) {
					t.Errorf("%s is out of order", show(l))
				}
			}
			checkRoll(t, l, api.OK, with(whole, func(l []api.Voter) {
				for i := range l {
					l[i].State = 1
				}
			}), api.OK, "the roll after all")
		}
	}
}

// R6

// Precincts are no smaller for being reduced to a byte, or to any other kind of integer.
func TestR6NothingOverflows(t *testing.T) {
	for precinct := range 8 {
		for _, size := range []int{8, 16, 32, 63} {
			for _, wide := range []int{precinct + 1<<size, precinct - 1<<size, -1 - precinct, math.MaxInt - precinct, math.MinInt + precinct} {
				l := []api.Voter{of("ann", wide, 1)}
				checkCheck(t, l, api.ErrBad)
				checkBytes(t, l, "", api.ErrBad)
				checkFind(t, l, "ann", api.Voter{}, api.ErrBad)
				checkAdd(t, free("ann"), "bob", wide, nil, api.ErrArg)
				checkAdd(t, many(64), "bob", wide, nil, api.ErrArg)
				if wide != -1 {
					checkCount(t, free("ann"), wide, api.Turnout{}, api.ErrArg)
				}
			}
		}
	}
}

// All values of the types: every state, and precincts of all sizes, in every call.
func TestR6AllValues(t *testing.T) {
	for state := range 256 {
		for _, precinct := range []int{math.MinInt, -1, 0, 1, 7, 8, 256, math.MaxInt} {
			l := []api.Voter{of("ann", precinct, uint8(state)), of("bob", 1, 1)}
			checkAll(t, l, "ann", precinct)
			checkAll(t, l, "bob", precinct)
			checkAll(t, l, "cy", 1)
		}
	}
}

// R7

// A panic or an endless call would fail the test by itself.
func TestR7AnyArguments(t *testing.T) {
	random := rand.New(rand.NewSource(2416))
	long := strings.Repeat("x", 1<<20)
	all := [][]api.Voter{nil, {}, {{}}, many(1), many(64), many(65), make([]api.Voter, 64), make([]api.Voter, 65), make([]api.Voter, 1<<18),
		{of(long, 0, 1), of(long, 0, 1)}, {of(long, math.MinInt, 255)}, free(long[:40])}
	for _, l := range all {
		for _, name := range []string{"", "x", "v10000", long, long[:40], long[:41], "\x00", "\xff"} {
			for _, precinct := range []int{math.MinInt, -1 << 32, -2, -1, 0, 1, 7, 8, 255, 256, 1 << 32, math.MaxInt} {
				checkAll(t, l, name, precinct)
			}
		}
	}
	for range 20000 {
		b := make([]byte, random.Intn(60))
		for i := range b {
			b[i] = byte(random.Intn(1 + random.Intn(256)))
		}
		want, wantE := modelRead(b)
		checkRead(t, b, want, wantE)
	}
	for range 10000 {
		l := spoilt(random, spoilt(random, randomRoll(random, 5)))
		name, precinct := randomName(random, true), random.Intn(12)-2
		checkAll(t, l, name, precinct)
	}
}
