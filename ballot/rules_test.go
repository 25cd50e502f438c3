package ballot_test

import (
	"fmt"
	"math"
	"math/rand"
	"slices"
	"strconv"
	"strings"
	"testing"

	"suffrage/api"
	"suffrage/ballot"
)

// answer is all that a call returns, in one form for all calls.
type answer struct {
	b  api.Ballot
	s  string
	n  int
	ok bool
	e  api.Errno
}

func (a answer) equal(b answer) bool {
	return modelSame(a.b, b.b) && a.s == b.s && a.n == b.n && a.ok == b.ok && a.e == b.e
}

// twin returns a copy of a, with memory of its own.
func (a answer) twin() answer {
	a.b.Marks, a.s = slices.Clone(a.b.Marks), strings.Clone(a.s)
	return a
}

// scribble overwrites the memory of a up to the capacity.
func (a answer) scribble() { scribbleInts(a.b.Marks) }

func scribbleInts(l []int) {
	for i := range l[:cap(l)] {
		l[:cap(l)][i] ^= 0x5a5
	}
}

func scribbleBools(l []bool) {
	for i := range l[:cap(l)] {
		l[:cap(l)][i] = !l[:cap(l)][i]
	}
}

// roomy returns l in memory of its own, with numbers behind its length.
func roomy(l []int) []int { return append(slices.Clone(l), 1, 0, 7, -1, 1000)[:len(l)] }

func roomyBools(l []bool) []bool {
	return append(slices.Clone(l), true, false, true, true, true)[:len(l)]
}

// call is a call with its arguments.
type call struct {
	name string
	a, b api.Ballot
	left []bool
	perm []int
	x, y int
	s    string
	do   func(x call) answer
}

func checkCall(x call) answer { return answer{e: ballot.Check(x.a, x.x)} }

func firstCall(x call) answer {
	n, ok := ballot.First(x.a)
	return answer{n: n, ok: ok}
}

func prefersCall(x call) answer { return answer{ok: ballot.Prefers(x.a, x.x, x.y)} }

func keepCall(x call) answer { return answer{b: ballot.Keep(x.a, x.left)} }

func renameCall(x call) answer {
	b, e := ballot.Rename(x.a, x.perm)
	return answer{b: b, e: e}
}

func sameCall(x call) answer { return answer{ok: ballot.Same(x.a, x.b)} }

func lessCall(x call) answer { return answer{ok: ballot.Less(x.a, x.b)} }

func textCall(x call) answer {
	s, e := ballot.Text(x.a)
	return answer{s: s, e: e}
}

func readCall(x call) answer {
	b, e := ballot.Read(x.s)
	return answer{b: b, e: e}
}

// someBallots are valid and not, with and without marks.
func someBallots() []api.Ballot {
	return []api.Ballot{rank(2, 0, 1), mark(0, 2), score(3, 0, 10), rank(), mark(), score(), rank(upTo(10)...), mark(upTo(10)...), score(upTo(10)...), mark(1), score(7), rank(1, 1), mark(2, 0), score(11),
		score(0, 0, 0), rank(-1), mark(10), rank(upTo(11)...), score(upTo(11)...), {}, kind(0, 1, 2), kind(4), kind(4, 2, 0, 1), kind(255, math.MaxInt, math.MinInt)}
}

// calls returns each of the package's calls, right and wrong, with lists that have room behind them.
func calls() []call {
	var l []call
	add := func(name string, do func(call) answer, x call) {
		x.name, x.do = name+" of "+show(x.a), do
		x.a.Marks, x.b.Marks, x.left, x.perm = roomy(x.a.Marks), roomy(x.b.Marks), roomyBools(x.left), roomy(x.perm)
		l = append(l, x)
	}
	for _, b := range someBallots() {
		for _, cands := range []int{3, 10, 0, 11} {
			add("Check", checkCall, call{a: b, x: cands})
		}
		add("First", firstCall, call{a: b})
		add("Prefers", prefersCall, call{a: b, x: 0, y: 1})
		add("Prefers", prefersCall, call{a: b, x: 2, y: -1})
		for _, left := range [][]bool{nil, {true, false, true}, slices.Repeat([]bool{true}, 12)} {
			add("Keep", keepCall, call{a: b, left: left})
		}
		for _, perm := range [][]int{{1, 2, 0}, {0, 1, 2}, {0}, {9, 8, 7, 6, 5, 4, 3, 2, 1, 0}, nil, {1, 1, 0}, upTo(11)} {
			add("Rename", renameCall, call{a: b, perm: perm})
		}
		for _, other := range []api.Ballot{b, rank(2, 0, 1), rank(2, 0), score(9), {}} {
			add("Same", sameCall, call{a: b, b: other})
			add("Less", lessCall, call{a: b, b: other})
			add("Less the other way", lessCall, call{a: other, b: b})
		}
		add("Text", textCall, call{a: b})
		add("Read", readCall, call{a: b, s: modelString(b)})
	}
	return l
}

// R1

func TestR1ErrorsInOrder(t *testing.T) {
	for _, b := range someBallots() {
		for _, cands := range []int{-1, 0, 11, 12, math.MinInt, math.MaxInt} {
			checkCheck(t, b, cands, api.ErrArg) // ahead of ErrBad
		}
		for _, perm := range [][]int{nil, {1}, {0, 0}, {0, 2}, {-1, 0}, upTo(11), append(upTo(9), 10)} {
			checkRename(t, b, perm, api.Ballot{}, api.ErrArg) // ahead of ErrBad
		}
		if !modelValidAlone(b) {
			for n := 1; n <= 10; n++ {
				checkCheck(t, b, n, api.ErrBad)
				checkRename(t, b, upTo(n), api.Ballot{}, api.ErrBad)
			}
			checkText(t, b, "", api.ErrBad) // also of no score, or of eleven, which is no number of candidates
		}
	}
}

func TestR1ErrorsHaveTheirNumbers(t *testing.T) {
	if api.OK != 0 || api.ErrArg != 2 || api.ErrBad != 8 || api.ErrForm != 11 {
		t.Error("an error has another number")
	}
	if api.KindRank != 1 || api.KindMark != 2 || api.KindScore != 3 || api.MaxCands != 10 || api.MaxScore != 10 {
		t.Error("a kind or a limit has another number")
	}
}

func TestR1NothingBesideAnError(t *testing.T) {
	failed := map[api.Errno]int{}
	for _, x := range calls() {
		a := x.do(x)
		if a.e == api.OK {
			continue
		}
		failed[a.e]++
		if !a.equal(answer{e: a.e}) {
			t.Errorf("%s: %v beside an error", x.name, a)
		}
	}
	if len(failed) != 3 || failed[api.ErrArg] == 0 || failed[api.ErrBad] == 0 || failed[api.ErrForm] == 0 {
		t.Errorf("the calls fail with %v", failed)
	}
}

// Where there is no favorite, 0 stands beside the false.
func TestR1NothingBesideFalse(t *testing.T) {
	for _, b := range slices.Concat(someBallots(), anyBallots(), validBallots(3)) {
		if c, ok := ballot.First(b); !ok && c != 0 {
			t.Errorf("First(%s) = %d, false", show(b), c)
		}
	}
}

// R2

// memory returns a text of all that a call's arguments hold, up to the capacities.
func memory(x call) string {
	return fmt.Sprint(x.a.Kind, x.a.Marks[:cap(x.a.Marks)], x.b.Kind, x.b.Marks[:cap(x.b.Marks)], x.left[:cap(x.left)], x.perm[:cap(x.perm)])
}

func checkMemory(t *testing.T, x call, want string) {
	t.Helper()
	if now := memory(x); now != want {
		t.Errorf("%s: the memory of an argument changes from %s to %s", x.name, want, now)
	}
}

func TestR2ArgumentsStay(t *testing.T) {
	for _, x := range calls() {
		before := memory(x)
		x.do(x)
		checkMemory(t, x, before)
	}
}

func TestR2AnswersShareNothingWithArguments(t *testing.T) {
	for _, x := range calls() {
		a := x.do(x)
		want := a.twin()
		before := memory(x)
		a.scribble()
		checkMemory(t, x, before)
		_ = append(a.b.Marks, 5)
		checkMemory(t, x, before)
		a = x.do(x)
		for _, l := range [][]int{x.a.Marks, x.b.Marks, x.perm} {
			scribbleInts(l)
		}
		scribbleBools(x.left)
		if !a.equal(want) {
			t.Errorf("%s: the answer changes with the arguments", x.name)
		}
	}
}

// A second answer depends neither on the first, nor on what became of it, nor on calls between.
func TestR2NothingIsKept(t *testing.T) {
	others := calls()
	for i, x := range calls() {
		first := x.do(x)
		want := first.twin()
		first.scribble()
		for j, y := range others {
			if i%20 == j%20 {
				y.do(y)
			}
		}
		again := x.do(x)
		first.scribble()
		if !again.equal(want) {
			t.Errorf("%s: the second answer is %v; want %v", x.name, again, want)
		}
	}
}

// Two arguments may share their memory, as may the marks of a ranking and a permutation.
func TestR2OneMemory(t *testing.T) {
	l := []int{2, 0, 1, 3}
	checkRename(t, rank(l...), l, rank(1, 2, 0, 3), api.OK)
	checkRename(t, score(l...), l, score(0, 1, 2, 3), api.OK)
	checkRename(t, rank(l[:2]...), l, rank(1, 2), api.OK)
	checkRename(t, mark(l[1:3]...), l, mark(0, 2), api.OK)
	checkSameAndLess(t, rank(l...), rank(l...), true, false)
	checkSameAndLess(t, rank(l...), rank(l[:3]...), false, false)
	checkSameAndLess(t, rank(l[:3]...), rank(l...), false, true)
	checkSameAndLess(t, rank(l...), rank(l[1:]...), false, false)
	kept := ballot.Keep(ballot.Keep(rank(l...), []bool{true, true, true}), []bool{true, true})
	checkSameAndLess(t, kept, rank(0, 1), true, false)
	if !slices.Equal(l, []int{2, 0, 1, 3}) {
		t.Errorf("the list becomes %v", l)
	}
}

// R3

func TestR3NilAndEmptyAreEqual(t *testing.T) {
	empties := [][]int{nil, {}, upTo(3)[:0], make([]int, 0, 20)}
	for k := range 6 {
		for _, l := range empties {
			a := kind(uint8(k), l...)
			for _, m := range empties {
				checkSameAndLess(t, a, kind(uint8(k), m...), true, false)
				checkSameAndLess(t, a, kind(uint8(k+1), m...), false, true)
			}
			for cands := range 12 {
				checkCheck(t, a, cands, modelCheck(kind(uint8(k)), cands))
			}
			checkFirst(t, a, 0, false)
			checkPrefers(t, a, 0, 1, false)
			checkKeep(t, a, nil, kind(uint8(k)))
			checkKeep(t, a, []bool{true}, kind(uint8(k)))
			want, wantE := modelRename(kind(uint8(k)), []int{1, 0})
			checkRename(t, a, []int{1, 0}, want, wantE)
			checkRename(t, rank(), l, api.Ballot{}, api.ErrArg)
			s, e := modelText(kind(uint8(k)))
			checkText(t, a, s, e)
		}
	}
	for _, left := range [][]bool{nil, {}, make([]bool, 0, 9), roomyBools(nil)} {
		checkKeep(t, rank(0, 1), left, rank())
		checkKeep(t, score(1, 2), left, score(0, 0))
	}
}

// A ballot with a mark of 0 is not one without marks.
func TestR3ZeroIsAMark(t *testing.T) {
	for k := range 6 {
		checkSameAndLess(t, kind(uint8(k)), kind(uint8(k), 0), false, true)
		checkSameAndLess(t, kind(uint8(k), 0), kind(uint8(k), 0, 0), false, true)
	}
}

// R4

// Marks are decimal, without leading zeros and signs.
func TestR4Numbers(t *testing.T) {
	for n := range 11 {
		word := strconv.Itoa(n)
		checkText(t, score(n), "score "+word, api.OK)
		checkRead(t, "score "+word, score(n), api.OK)
		for _, wrong := range []string{"+" + word, "-" + word, "0" + word, "00" + word, word + ".", word + ".0", "0x" + strconv.FormatInt(int64(n), 16), strconv.FormatInt(int64(n), 2) + "b", word + "e0"} {
			checkNoBallot(t, "score "+wrong)
			checkNoBallot(t, "rank "+wrong)
			checkNoBallot(t, "mark "+wrong)
		}
	}
	checkNoBallot(t, "score a")
	checkNoBallot(t, "score 007")
	checkNoBallot(t, "score +5")
	checkNoBallot(t, "score -0")
}

// R5

// A ranking has its own order, a renamed approval that of the candidates, and of equal scores none is the first.
func TestR5Order(t *testing.T) {
	for _, perm := range perms(4) {
		checkText(t, rank(perm...), modelString(rank(perm...)), api.OK)
		checkRead(t, modelString(rank(perm...)), rank(perm...), api.OK)
		checkKeep(t, rank(perm...), slices.Repeat([]bool{true}, 4), rank(perm...))
		checkFirst(t, rank(perm...), perm[0], true)
		renamed, e := ballot.Rename(mark(0, 1, 3), perm)
		if e != api.OK || !slices.IsSorted(renamed.Marks) || slices.Contains(renamed.Marks, perm[2]) || len(renamed.Marks) != 3 {
			t.Errorf("Rename by %v gives %s, %d", perm, show(renamed), int(e))
		}
	}
	checkFirst(t, score(4, 4), 0, false)
	checkFirst(t, score(0, 4, 4), 0, false)
}

// R6

// Numbers are compared as they are, not by their difference, and not in fewer bits.
func TestR6NothingOverflows(t *testing.T) {
	numbers := []int{math.MinInt, math.MinInt + 1, -1 << 32, -257, -256, -1, 0, 1, 5, 255, 256, 257, 1 << 31, 1 << 32, 1<<32 + 1, math.MaxInt - 1, math.MaxInt}
	for i, a := range numbers {
		for j, b := range numbers {
			for _, k := range []uint8{1, 2, 3, 9} {
				checkSameAndLess(t, kind(k, a), kind(k, b), i == j, i < j)
				checkSameAndLess(t, kind(k, 3, a, 0), kind(k, 3, b, 0), i == j, i < j)
			}
			checkPrefers(t, score(a, b), 0, 1, i > j)
			checkPrefers(t, rank(a), a, b, a >= 0 && b >= 0 && i != j)
			checkPrefers(t, mark(b), a, b, false)
			checkPrefers(t, score(1, 0), a, b, a == 0 && b == 1)
		}
	}
	for _, size := range []int{8, 16, 32, 63} {
		for n := range 10 {
			for _, wide := range []int{n + 1<<size, n - 1<<size} {
				for _, b := range []api.Ballot{rank(wide), mark(wide), score(wide)} {
					checkCheck(t, b, 1, api.ErrBad)
					checkCheck(t, b, 10, api.ErrBad)
					checkFirst(t, b, 0, false)
					checkText(t, b, "", api.ErrBad)
					checkRename(t, b, upTo(10), api.Ballot{}, api.ErrBad)
					checkNoBallot(t, modelString(b))
				}
				checkKeep(t, rank(wide, n), slices.Repeat([]bool{true}, 10), rank(n))
				checkCheck(t, rank(), wide, api.ErrArg)
				perm := upTo(n + 1)
				perm[n] = wide
				checkRename(t, rank(), perm, api.Ballot{}, api.ErrArg)
			}
		}
	}
}

// R7

// A panic or an endless call would fail the test by itself.
func TestR7AnyArguments(t *testing.T) {
	numbers := []int{math.MinInt, -1 << 32, -1, 0, 1, 2, 9, 10, 11, 255, 1 << 16, 1 << 32, math.MaxInt}
	marks := [][]int{nil, {0}, {-1}, {math.MinInt}, {math.MaxInt}, upTo(10), upTo(11), times(10, -1), times(1<<16, 0), times(1<<16, 11), upTo(1 << 16), numbers}
	left, perm := slices.Repeat([]bool{true}, 1<<16), upTo(1<<16)
	for _, l := range marks {
		for _, k := range []uint8{0, 1, 2, 3, 4, 128, 255} {
			b := kind(k, l...)
			for _, x := range numbers {
				checkCheck(t, b, x, modelCheck(b, x))
				for _, y := range numbers {
					ballot.Prefers(b, x, y)
				}
			}
			want, ok := modelFirst(b)
			checkFirst(t, b, want, ok)
			checkKeep(t, b, left, modelKeep(b, left))
			checkKeep(t, b, left[:3], modelKeep(b, left[:3]))
			checkRename(t, b, perm, api.Ballot{}, api.ErrArg)
			renamed, e := modelRename(b, l)
			checkRename(t, b, l, renamed, e)
			checkSameAndLess(t, b, b, true, false)
			checkSameAndLess(t, b, kind(k, append(slices.Clone(l), 0)...), false, true)
			s, e := modelText(b)
			checkText(t, b, s, e)
		}
	}
}

func TestR7AnyStrings(t *testing.T) {
	for _, s := range []string{strings.Repeat(" ", 1<<20), strings.Repeat("rank ", 1<<18), "rank" + strings.Repeat(" 0", 1<<20), "score" + strings.Repeat(" 1", 1<<20),
		"score " + strings.Repeat("1", 1<<20), "score " + strings.Repeat("0", 1<<20), "mark " + strings.Repeat("x", 1<<20), strings.Repeat("x", 1<<20), "score -" + strings.Repeat("9", 1<<20),
		"rank" + strings.Repeat(" ", 1<<20), strings.Repeat("\x00", 1<<20), strings.Repeat("\xff", 1<<20), "rank 0\xff", "\xffrank"} {
		checkNoBallot(t, s)
	}
	random := rand.New(rand.NewSource(94))
	for range 40000 {
		b := make([]byte, random.Intn(30))
		for i := range b {
			b[i] = "rankmscoe 0123456789-+\x00\xff"[random.Intn(24)]
		}
		want, wantE := modelRead(string(b))
		checkRead(t, string(b), want, wantE)
	}
}
