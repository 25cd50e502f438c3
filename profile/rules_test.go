package profile_test

import (
	"cmp"
	"fmt"
	"math"
	"math/rand"
	"runtime"
	"slices"
	"testing"
	"unsafe"

	"suffrage/api"
	"suffrage/profile"
)

// answer is all that a call returns, in one form for all calls.
type answer struct {
	p  api.Profile
	n  int
	ok bool
	e  api.Errno
}

func (a answer) equal(b answer) bool {
	return modelSame(a.p, b.p) && a.n == b.n && a.ok == b.ok && a.e == b.e
}

// twin returns a copy of a, with memory of its own.
func (a answer) twin() answer {
	a.p = copied(a.p)
	return a
}

// scribble overwrites the memory of p up to the capacities.
func scribble(p api.Profile) {
	for _, r := range p.Rows[:cap(p.Rows)] {
		scribbleInts(r.Marks)
	}
	for i := range p.Rows[:cap(p.Rows)] {
		p.Rows[:cap(p.Rows)][i].Many ^= 0x5a5
		p.Rows[:cap(p.Rows)][i].Marks = []int{99}
	}
}

func scribbleInts(l []int) {
	for i := range l[:cap(l)] {
		l[:cap(l)][i] ^= 0x5a5
	}
}

// roomy returns p in memory of its own, with rows behind its length, and numbers behind those of the marks.
func roomy(p api.Profile) api.Profile {
	var rows []api.Row
	for _, r := range slices.Concat(p.Rows, []api.Row{row(3), row(1, 0), row(-7, 5, 5)}) {
		rows = append(rows, api.Row{Marks: roomyInts(r.Marks), Many: r.Many})
	}
	p.Rows = rows[:len(p.Rows)]
	return p
}

func roomyInts(l []int) []int { return append(slices.Clone(l), 1, 0, 7, -1, 1000)[:len(l)] }

// call is a call with its arguments; model is what the document says of it.
type call struct {
	name      string
	p, q      api.Profile
	b         api.Ballot
	many      int
	left      []bool
	perm      []int
	l         []api.Ballot
	cands     int
	kind      uint8
	do, model func(x call) answer
}

// profileAnswer returns the answer of a call that returns a profile and an error.
func profileAnswer(p api.Profile, e api.Errno) answer { return answer{p: p, e: e} }

func numberAnswer(n int, e api.Errno) answer { return answer{n: n, e: e} }

// operation is a function of the package, and the model's.
type operation struct {
	name      string
	do, model func(x call) answer
}

func checkOperation() operation {
	return operation{"Check", func(x call) answer { return answer{e: profile.Check(x.p)} }, func(x call) answer { return answer{e: modelCheck(x.p)} }}
}

func newOperation() operation {
	return operation{"New", func(x call) answer { return profileAnswer(profile.New(x.cands, x.kind)) }, func(x call) answer { return profileAnswer(modelNew(x.cands, x.kind)) }}
}

func makeOperation() operation {
	return operation{"Make", func(x call) answer { return profileAnswer(profile.Make(x.cands, x.kind, x.l...)) }, func(x call) answer { return profileAnswer(modelMake(x.cands, x.kind, x.l)) }}
}

func addOperation() operation {
	return operation{"Add", func(x call) answer { return profileAnswer(profile.Add(x.p, x.b, x.many)) }, func(x call) answer { return profileAnswer(modelAdd(x.p, x.b, x.many)) }}
}

func takeOperation() operation {
	return operation{"Take", func(x call) answer { return profileAnswer(profile.Take(x.p, x.b, x.many)) }, func(x call) answer { return profileAnswer(modelTake(x.p, x.b, x.many)) }}
}

func sumOperation() operation {
	return operation{"Sum", func(x call) answer { return profileAnswer(profile.Sum(x.p, x.q)) }, func(x call) answer { return profileAnswer(modelSum(x.p, x.q)) }}
}

func minusOperation() operation {
	return operation{"Minus", func(x call) answer { return profileAnswer(profile.Minus(x.p, x.q)) }, func(x call) answer { return profileAnswer(modelMinus(x.p, x.q)) }}
}

func manyOperation() operation {
	return operation{"Many", func(x call) answer { return numberAnswer(profile.Many(x.p)) }, func(x call) answer { return numberAnswer(modelCount(x.p, 0)) }}
}

func markedOperation() operation {
	return operation{"Marked", func(x call) answer { return numberAnswer(profile.Marked(x.p)) }, func(x call) answer { return numberAnswer(modelCount(x.p, 1)) }}
}

func keepOperation() operation {
	return operation{"Keep", func(x call) answer { return profileAnswer(profile.Keep(x.p, x.left)) }, func(x call) answer { return profileAnswer(modelKeep(x.p, x.left)) }}
}

func renameOperation() operation {
	return operation{"Rename", func(x call) answer { return profileAnswer(profile.Rename(x.p, x.perm)) }, func(x call) answer { return profileAnswer(modelRename(x.p, x.perm)) }}
}

func sameOperation() operation {
	return operation{"Same", func(x call) answer { return answer{ok: profile.Same(x.p, x.q)} }, func(x call) answer { return answer{ok: modelSame(x.p, x.q)} }}
}

func twinOperation() operation {
	return operation{"Twin", func(x call) answer { return answer{p: profile.Twin(x.p)} }, func(x call) answer { return answer{p: copied(x.p)} }}
}

// checked returns the operations that begin with Check of their first profile.
func checked() []operation {
	return []operation{checkOperation(), addOperation(), takeOperation(), sumOperation(), minusOperation(), manyOperation(), markedOperation(), keepOperation(), renameOperation()}
}

func operations() []operation {
	return append(checked(), newOperation(), makeOperation(), sameOperation(), twinOperation())
}

// wrongProfiles are not valid, with the errors that Check has for them.
func wrongProfiles() map[api.Errno][]api.Profile {
	l := map[api.Errno][]api.Profile{
		api.ErrFull: {ranks(10, manyRows(1, 65)...), ranks(0, make([]api.Row, 65)...), of(3, 9, slices.Repeat([]api.Row{row(math.MaxInt, 7, 7)}, 65)...), marks(10, make([]api.Row, 1000)...)},
		api.ErrBad: {{}, ranks(0), ranks(11), of(3, 0), of(3, 4), of(3, 255), ranks(-1, row(1000001)), ranks(3, row(0)), ranks(3, row(-1, 1)), ranks(3, row(1, 3)), ranks(3, row(1, 1), row(1, 0)), ranks(3, row(1), row(1)),
			marks(3, row(1, 1, 0)), scores(3, row(1, 0, 0)), ranks(3, row(1000001, 0, 0)), ranks(3, row(1000001), row(0, 1)), ranks(3, row(1000001, 1), row(1, 0)), ranks(3, row(math.MaxInt), row(math.MaxInt, 3)),
			of(3, 77, row(1000001)), ranks(10, slices.Repeat([]api.Row{row(1000000)}, 64)...), ranks(3, row(1000001, 1), row(-1, 2))},
		api.ErrMany: {ranks(3, row(1000001)), ranks(3, row(math.MaxInt, 1), row(math.MaxInt, 2)), fullRows(1, 1000001), fullRows(2, 1000001), fullRows(3, 5000000), marks(3, row(999999), row(2, 0)), scores(1, row(1<<32, 7))},
	}
	return l
}

// rightProfiles are valid.
func rightProfiles() []api.Profile {
	return []api.Profile{ranks(3), {Cands: 3, Kind: 1, Rows: []api.Row{}}, ranks(3, row(4, 0, 1), row(2, 1)), ranks(3, row(3), row(1, 0, 1, 2), row(2, 2, 0, 1)), marks(3), marks(3, row(4), row(1, 0, 1), row(2, 1, 2)),
		scores(3), scores(3, row(1, 0, 0, 0), row(4, 3, 0, 10)), fullRows(1, 64), fullRows(2, 1000000), fullRows(3, 1000), ranks(1, row(1000000)), ranks(10, row(5, 9, 0))}
}

// someProfiles are valid and not.
func someProfiles() []api.Profile {
	l := rightProfiles()
	for _, e := range []api.Errno{api.ErrFull, api.ErrBad, api.ErrMany} {
		l = append(l, wrongProfiles()[e]...)
	}
	return append(l, differentProfiles()...)
}

// calls returns calls of each of the package's functions, right and wrong, with lists that have room behind them.
func calls() []call {
	var all []call
	add := func(x call) {
		for _, o := range operations() {
			y := x
			y.name, y.do, y.model = o.name+" of "+show(x.p), o.do, o.model
			y.p, y.q, y.b.Marks = roomy(x.p), roomy(x.q), roomyInts(x.b.Marks)
			y.left, y.perm = append(slices.Clone(x.left), true, false, true)[:len(x.left)], roomyInts(x.perm)
			y.l = append(slices.Clone(x.l), rank(0), mark(0), rank(0, 0))[:len(x.l)]
			for i := range y.l[:cap(y.l)] {
				y.l[:cap(y.l)][i].Marks = roomyInts(y.l[:cap(y.l)][i].Marks)
			}
			all = append(all, y)
		}
	}
	right := rightProfiles()
	for i, p := range someProfiles() {
		add(call{p: p, q: p, b: api.Ballot{Kind: p.Kind}, many: 1, perm: upTo(max(0, min(p.Cands, 10))), cands: 3, kind: 1, l: []api.Ballot{rank(1), rank(), rank(1), rank(0, 2)}})
		add(call{p: p, q: right[i%len(right)], b: rank(0, 1), many: 4, left: []bool{true, false, true}, perm: []int{2, 0, 1}, cands: p.Cands, kind: p.Kind, l: ballots(p.Kind, p.Rows)})
		add(call{p: right[i%len(right)], q: p, b: mark(0, 1), many: 2, left: []bool{true}, perm: []int{1, 1, 0}, cands: 3, kind: 2, l: []api.Ballot{mark(0), mark(), mark(1, 0)}})
		reversed := upTo(10)
		slices.Reverse(reversed)
		add(call{p: p, q: ranks(3, row(1, 0, 1)), b: score(0, 0, 0), many: math.MaxInt, left: slices.Repeat([]bool{true}, 12), perm: reversed, cands: 10, kind: 3, l: ballots(3, manyRows(3, 65))})
		if len(p.Rows) > 0 && p.Kind != 0 {
			add(call{p: p, q: of(p.Cands, p.Kind, p.Rows[0]), b: api.Ballot{Kind: p.Kind, Marks: p.Rows[0].Marks}, many: p.Rows[0].Many, left: []bool{false, true}, perm: reversed[9:], cands: 3, kind: 1})
		}
	}
	return all
}

func TestCallsHaveTheModelsAnswers(t *testing.T) {
	seen := map[api.Errno]int{}
	for _, x := range calls() {
		a, want := x.do(x), x.model(x)
		if !a.equal(want) {
			t.Errorf("%s: %s, %d, %v, %d; want %s, %d, %v, %d", x.name, show(a.p), a.n, a.ok, int(a.e), show(want.p), want.n, want.ok, int(want.e))
		}
		seen[a.e]++
	}
	for _, e := range []api.Errno{api.OK, api.ErrArg, api.ErrMany, api.ErrNone, api.ErrBad, api.ErrFull} {
		if seen[e] < 10 {
			t.Errorf("the calls have the errors %v", seen)
		}
	}
}

// R1

// The error of the first profile comes before everything else, whatever else is wrong.
func TestR1FirstProfileFirst(t *testing.T) {
	for want, l := range wrongProfiles() {
		for _, p := range l {
			checkCheck(t, p, want)
			others := append(rightProfiles(), of(p.Cands, p.Kind), p)
			for _, more := range wrongProfiles() {
				others = append(others, more...)
			}
			for _, q := range others {
				x := call{p: p, q: q, b: api.Ballot{Kind: p.Kind, Marks: []int{-1}}, many: 0, perm: []int{1}}
				for _, o := range checked() {
					if a := o.do(x); !a.equal(answer{e: want}) {
						t.Errorf("%s of %s and %s: %v; want error %d", o.name, show(p), show(q), a, int(want))
					}
				}
			}
		}
	}
}

// The error of the second profile comes before whatever the two have against each other.
func TestR1SecondProfileNext(t *testing.T) {
	for want, l := range wrongProfiles() {
		for _, q := range l {
			for _, p := range rightProfiles() {
				checkSum(t, p, q, api.Profile{}, want)
				checkMinus(t, p, q, api.Profile{}, want)
			}
		}
	}
}

func TestR1ErrorsInOrder(t *testing.T) {
	checkCheck(t, of(0, 9, slices.Repeat([]api.Row{row(math.MaxInt, -1)}, 65)...), api.ErrFull)
	checkCheck(t, ranks(10, append(manyRows(1, 64), row(math.MaxInt, 10))...), api.ErrFull)
	checkCheck(t, ranks(10, append(manyRows(1, 63), row(math.MaxInt, 10))...), api.ErrBad)
	checkCheck(t, ranks(3, row(1000001, 1), row(1, 0)), api.ErrBad)
	checkCheck(t, ranks(3, row(math.MaxInt), row(math.MaxInt)), api.ErrBad)
	checkNoChange(t, fullRows(1, 1000000), mark(0), 0, api.ErrBad)
	checkNoChange(t, fullRows(1, 1000000), rank(10), math.MaxInt, api.ErrBad)
	checkNoChange(t, fullRows(1, 1000000), rank(9, 8), 0, api.ErrArg)
	checkNoChange(t, ranks(3), rank(0), 0, api.ErrArg)
	checkAdd(t, fullRows(1, 1000000), rank(9, 8), 1, api.Profile{}, api.ErrFull)
	checkAdd(t, fullRows(1, 1000000), rank(0), 1, api.Profile{}, api.ErrMany)
	checkTake(t, fullRows(1, 1000000), rank(9, 8), 1, api.Profile{}, api.ErrNone)
	checkSum(t, fullRows(1, 1000000), fullRows(2, 1000000), api.Profile{}, api.ErrBad)
	checkMinus(t, ranks(3, row(1)), marks(3, row(2)), api.Profile{}, api.ErrBad)
	checkSum(t, fullRows(1, 1000000), ranks(10, row(1000000, 9, 8)), api.Profile{}, api.ErrFull)
	checkSum(t, fullRows(1, 1000000), fullRows(1, 64), api.Profile{}, api.ErrMany)
}

func TestR1ErrorsHaveTheirNumbers(t *testing.T) {
	if api.OK != 0 || api.ErrArg != 2 || api.ErrMany != 4 || api.ErrNone != 6 || api.ErrBad != 8 || api.ErrFull != 9 {
		t.Error("an error has another number")
	}
	if api.KindRank != 1 || api.KindMark != 2 || api.KindScore != 3 || api.MaxCands != 10 || api.MaxRows != 64 || api.MaxMany != 1000000 {
		t.Error("a kind or a limit has another number")
	}
}

func TestR1NothingBesideAnError(t *testing.T) {
	failed := map[api.Errno]int{}
	for _, x := range calls() {
		a := x.do(x)
		if a.e == api.OK {
			continue
		}
		failed[a.e]++
		if a.p.Cands != 0 || a.p.Kind != 0 || a.p.Rows != nil || a.n != 0 || a.ok {
			t.Errorf("%s: %v beside an error", x.name, a)
		}
	}
	if len(failed) != 5 {
		t.Errorf("the calls fail with %v", failed)
	}
}

// R2

// memory returns a text of all that a profile holds, up to the capacities.
func memory(p api.Profile) string {
	s := fmt.Sprint(p.Cands, p.Kind)
	for _, r := range p.Rows[:cap(p.Rows)] {
		s += fmt.Sprint(len(r.Marks), r.Marks[:cap(r.Marks)], r.Many)
	}
	return s
}

// arguments returns a text of all that a call's arguments hold, up to the capacities.
func (x call) arguments() string {
	s := memory(x.p) + memory(x.q) + fmt.Sprint(x.b.Kind, x.b.Marks[:cap(x.b.Marks)], x.left[:cap(x.left)], x.perm[:cap(x.perm)])
	for _, b := range x.l[:cap(x.l)] {
		s += fmt.Sprint(b.Kind, len(b.Marks), b.Marks[:cap(b.Marks)])
	}
	return s
}

// scribble overwrites the memory of all arguments.
func (x call) scribble() {
	scribble(x.p)
	scribble(x.q)
	scribbleInts(x.b.Marks)
	scribbleInts(x.perm)
	for i := range x.left[:cap(x.left)] {
		x.left[:cap(x.left)][i] = !x.left[:cap(x.left)][i]
	}
	for i := range x.l[:cap(x.l)] {
		scribbleInts(x.l[:cap(x.l)][i].Marks)
		x.l[:cap(x.l)][i] = mark(0, 0)
	}
}

func (x call) checkArguments(t *testing.T, want string) {
	t.Helper()
	if x.arguments() != want {
		t.Errorf("%s: the memory of an argument changes", x.name)
	}
}

func TestR2ArgumentsStay(t *testing.T) {
	for _, x := range calls() {
		before := x.arguments()
		x.do(x)
		x.checkArguments(t, before)
	}
}

func TestR2AnswersShareNothingWithArguments(t *testing.T) {
	for _, x := range calls() {
		before := x.arguments()
		a := x.do(x)
		want := a.twin()
		for _, r := range a.p.Rows {
			_ = append(r.Marks, 5)
		}
		_ = append(a.p.Rows, row(5))
		scribble(a.p)
		x.checkArguments(t, before)
		a = x.do(x)
		x.scribble()
		if !a.equal(want) {
			t.Errorf("%s: the answer changes with the arguments", x.name)
		}
	}
}

// Each list of marks in an answer has memory of its own, up to its capacity.
func TestR2ListsOfAnAnswerShareNothing(t *testing.T) {
	type span struct{ start, end uintptr }
	for _, x := range calls() {
		var spans []span
		a := x.do(x)
		for _, r := range a.p.Rows {
			if start := uintptr(unsafe.Pointer(unsafe.SliceData(r.Marks))); cap(r.Marks) > 0 {
				spans = append(spans, span{start, start + uintptr(cap(r.Marks))*unsafe.Sizeof(0)})
			}
		}
		slices.SortFunc(spans, func(s, t span) int { return cmp.Compare(s.start, t.start) })
		for i := 1; i < len(spans); i++ {
			if spans[i-1].end > spans[i].start {
				t.Errorf("%s: two rows share memory", x.name)
			}
		}
		runtime.KeepAlive(a)
	}
}

// A second answer depends neither on the first, nor on what became of it, nor on calls between.
func TestR2NothingIsKept(t *testing.T) {
	others := calls()
	for i, x := range calls() {
		first := x.do(x)
		want := first.twin()
		scribble(first.p)
		for j := i % 97; j < len(others); j += 97 {
			others[j].do(others[j])
		}
		again := x.do(x)
		if !again.equal(want) {
			t.Errorf("%s: the second answer is %v; want %v", x.name, again, want)
		}
	}
}

// Arguments may share their memory with each other.
func TestR2OneMemory(t *testing.T) {
	l := []int{0, 1, 2, 1}
	p := ranks(3, api.Row{Marks: l[:0], Many: 1}, api.Row{Marks: l[:1], Many: 2}, api.Row{Marks: l[:2], Many: 3}, api.Row{Marks: l[1:3], Many: 4}, api.Row{Marks: l[2:], Many: 5})
	want := copied(p)
	twice := ranks(3, row(2), row(4, 0), row(6, 0, 1), row(8, 1, 2), row(10, 2, 1))
	checkSum(t, p, p, twice, api.OK)
	checkMinus(t, p, p, ranks(3), api.OK)
	checkMinus(t, twice, p, p, api.OK)
	checkAdd(t, p, rank(l[:3]...), 1, ranks(3, row(1), row(2, 0), row(3, 0, 1), row(1, 0, 1, 2), row(4, 1, 2), row(5, 2, 1)), api.OK)
	checkTake(t, p, rank(l[:1]...), 2, ranks(3, row(1), row(3, 0, 1), row(4, 1, 2), row(5, 2, 1)), api.OK)
	checkRename(t, p, l[:3], want, api.OK)
	checkKeep(t, p, []bool{true}, ranks(3, row(10), row(5, 0)), api.OK)
	checkMake(t, 3, 1, []api.Ballot{rank(l[:2]...), rank(l[2:]...), rank(l[:1]...), rank(l[:2]...)}, ranks(3, row(1, 0), row(2, 0, 1), row(1, 2, 1)), api.OK)
	if !modelSame(p, want) || !slices.Equal(l, []int{0, 1, 2, 1}) {
		t.Errorf("the arguments become %s and %v", show(p), l)
	}
}

// R3

func TestR3NilAndEmptyAreEqual(t *testing.T) {
	empties := [][]int{nil, {}, upTo(3)[:0], make([]int, 0, 20)}
	rowsOf := func(none []int) [][]api.Row {
		blank := api.Row{Marks: none, Many: 3}
		return [][]api.Row{nil, {}, {blank}, {blank, row(1, 0)}, make([]api.Row, 0, 5)}
	}
	for _, a := range empties {
		for _, b := range empties {
			for i, rows := range rowsOf(a) {
				for j, others := range rowsOf(b) {
					p, q := of(3, 1, rows...), of(3, 1, others...)
					same := len(rows) == len(others)
					if profile.Same(p, q) != same {
						t.Errorf("Same of %d and %d is %v", i, j, !same)
					}
					want, wantE := modelSum(p, q)
					checkSum(t, p, q, want, wantE)
					want, wantE = modelMinus(p, q)
					checkMinus(t, p, q, want, wantE)
				}
				checkAdd(t, of(3, 1, rows...), rank(b...), 1, of(3, 1, slices.Concat([]api.Row{row(min(1, len(rows))*3 + 1)}, rows[min(1, len(rows)):])...), api.OK)
			}
			checkTake(t, ranks(3, api.Row{Marks: a, Many: 3}), rank(b...), 3, ranks(3), api.OK)
			checkMake(t, 3, 1, []api.Ballot{rank(a...), rank(b...)}, ranks(3, row(2)), api.OK)
		}
	}
	p := ranks(3, row(1, 0))
	for _, left := range [][]bool{nil, {}, make([]bool, 0, 4), []bool{true, true, true}[:0]} {
		checkKeep(t, p, left, ranks(3, row(1)), api.OK)
	}
	for _, perm := range empties {
		checkRename(t, p, perm, api.Profile{}, api.ErrArg)
		checkRename(t, ranks(3), perm, api.Profile{}, api.ErrArg)
	}
}

// R5

// Rows are in the order of their marks, whatever the order of the ballots, and whatever is made of them.
func TestR5Order(t *testing.T) {
	random := rand.New(rand.NewSource(110))
	for kind := uint8(1); kind <= 3; kind++ {
		want := of(10, kind, manyRows(kind, 64)...)
		for range 20 {
			l := ballots(kind, want.Rows)
			random.Shuffle(len(l), func(i, j int) { l[i], l[j] = l[j], l[i] })
			checkMake(t, 10, kind, l, want, api.OK)
			renamed, e := profile.Rename(want, random.Perm(10))
			if !modelRows(renamed) || len(renamed.Rows) != 64 || e != api.OK {
				t.Errorf("Rename gives %s, %d", show(renamed), int(e))
			}
		}
	}
}

// R6

// Numbers are taken as they are, and not in fewer bits.
func TestR6NothingOverflows(t *testing.T) {
	p := ranks(3, row(500000, 0), row(499999, 1))
	for _, size := range []int{8, 16, 20, 31, 32, 33, 62} {
		for _, more := range []int{0, 1, 2} {
			wide := 1<<size + more
			if wide > 1000000 {
				checkAdd(t, p, rank(0), wide, api.Profile{}, api.ErrMany)
				checkAdd(t, p, rank(2), wide, api.Profile{}, api.ErrMany)
				checkTake(t, p, rank(0), wide, api.Profile{}, api.ErrNone)
				checkCheck(t, ranks(3, row(1), row(wide, 1)), api.ErrMany)
			}
			checkNoChange(t, p, rank(0), more-1<<size, api.ErrArg)
			checkCheck(t, ranks(3, row(more-1<<size)), api.ErrBad)
			checkCheck(t, ranks(wide+8), api.ErrBad)
			checkRename(t, p, []int{0, 1, wide + 8}, api.Profile{}, api.ErrArg)
			checkNoChange(t, p, rank(wide+8), 1, api.ErrBad)
		}
	}
	for at := range 64 {
		for _, many := range []int{math.MaxInt, math.MaxInt - 63, math.MaxInt - 62, math.MaxInt / 2} {
			q := fullRows(1, 64)
			q.Rows[at].Many = many
			checkCheck(t, q, api.ErrMany)
			q.Rows[(at+1)%64].Many = math.MaxInt - many + 1
			checkCheck(t, q, api.ErrMany)
		}
		b := rank(manyRows(1, 64)[at].Marks...)
		for more := range 70 {
			checkAdd(t, fullRows(1, 64), b, math.MaxInt-more, api.Profile{}, api.ErrMany)
		}
	}
}

// R7

// A panic or an endless call would fail the test by itself.
func TestR7AnyArguments(t *testing.T) {
	long := upTo(300)
	profiles := []api.Profile{{}, ranks(math.MaxInt), ranks(math.MinInt, row(math.MinInt, math.MinInt)), ranks(3, make([]api.Row, 300)...), ranks(3, slices.Repeat([]api.Row{row(1, 0)}, 300)...), ranks(3, row(1, long...)),
		marks(3, row(1, long...)), scores(3, row(1, long...)), scores(10, row(1, slices.Repeat([]int{10}, 300)...)), of(3, 255, row(1, 0)), ranks(3, slices.Repeat([]api.Row{row(1, long...)}, 64)...)}
	profiles = append(profiles, rightProfiles()...)
	for i, p := range profiles {
		for _, q := range []api.Profile{p, profiles[(i+1)%len(profiles)], profiles[(i+5)%len(profiles)], ranks(3)} {
			for _, b := range []api.Ballot{{}, rank(long...), mark(long...), score(long...), rank(math.MinInt), {Kind: 255}} {
				x := call{p: p, q: q, b: b, many: math.MinInt, left: make([]bool, 300), perm: long, l: []api.Ballot{b, b}, cands: 3, kind: b.Kind}
				for _, o := range operations() {
					if a, want := o.do(x), o.model(x); !a.equal(want) {
						t.Errorf("%s of %s and %s gives error %d; want %d", o.name, show(p), show(q), int(a.e), int(want.e))
					}
				}
			}
		}
	}
}

func TestR7GreatArguments(t *testing.T) {
	long := upTo(1 << 18)
	for _, p := range []api.Profile{ranks(3, row(1, long...)), marks(3, row(1, long...)), scores(3, row(1, long...)), ranks(3, make([]api.Row, 1<<18)...), ranks(3, slices.Repeat([]api.Row{row(1, long[:3]...)}, 1<<18)...)} {
		want := api.ErrBad
		if len(p.Rows) > 64 {
			want = api.ErrFull
		}
		for _, o := range checked() {
			if a := o.do(call{p: p, q: p, b: rank(long...), many: math.MaxInt, left: make([]bool, 1<<18), perm: long}); a.e != want {
				t.Errorf("%s of %s gives error %d", o.name, show(p), int(a.e))
			}
		}
		twin := profile.Twin(p)
		if !profile.Same(twin, p) {
			t.Errorf("%s is not the same as its twin", show(p))
		}
		if twin.Rows[len(twin.Rows)-1].Many++; profile.Same(twin, p) {
			t.Errorf("%s is the same as one with another count", show(p))
		}
	}
	p := ranks(3, row(1, 0))
	checkNoChange(t, p, rank(long...), 1, api.ErrBad)
	checkRename(t, p, long, api.Profile{}, api.ErrArg)
	checkKeep(t, p, make([]bool, 1<<18), ranks(3, row(1)), api.OK)
	checkMake(t, 3, 1, []api.Ballot{rank(long...)}, api.Profile{}, api.ErrBad)
}

func TestR7RandomCalls(t *testing.T) {
	random := rand.New(rand.NewSource(111))
	for range 5000 {
		p, q := randomProfile(random), randomProfile(random)
		for range random.Intn(4) {
			p, q = spoilt(random, p), spoilt(random, q)
		}
		if random.Intn(2) == 0 {
			q = p
		}
		x := call{p: p, q: q, b: api.Ballot{Kind: uint8(random.Intn(5)), Marks: []int{random.Intn(13) - 1}}, many: random.Intn(5) - 1, left: make([]bool, random.Intn(12)), perm: random.Perm(random.Intn(12)),
			l: ballots(p.Kind, p.Rows), cands: q.Cands, kind: p.Kind}
		for _, o := range operations() {
			if a, want := o.do(x), o.model(x); !a.equal(want) {
				t.Errorf("%s of %s and %s: %v; want %v", o.name, show(p), show(q), a, want)
			}
		}
	}
}
