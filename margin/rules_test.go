package margin_test

import (
	"fmt"
	"math"
	"math/rand"
	"slices"
	"strconv"
	"strings"
	"sync"
	"testing"

	"suffrage/api"
	"suffrage/count"
	"suffrage/margin"
	"suffrage/ratio"
)

// answer is all that a call returns, in one form for all calls.
type answer struct {
	n  int
	ok bool
	e  api.Errno
}

// operation is a function of the package, and the model's.
type operation struct {
	name      string
	do, model func(x call) answer
}

// call is a call with its arguments, of which each function takes its own.
type call struct {
	operation
	c             api.Contest
	p             api.Profile
	lot           []int
	rule          uint8
	cands         int
	marks         []int
	w, other      int
	gains, counts []int
	need          int
}

func (x call) String() string {
	switch x.name {
	case "Of":
		return showOf(x.c, x.p, x.lot)
	case "Gain":
		return fmt.Sprintf("Gain(%d, %d, %v, %d, %d)", x.rule, x.cands, some(x.marks), x.w, x.other)
	}
	return fmt.Sprintf("Least(%v, %v, %d)", some(x.gains), some(x.counts), x.need)
}

// run returns the answer of the call.
func (x call) run() answer { return x.do(x) }

// check holds the answer against the model's, and returns it.
func (x call) check(t *testing.T) answer {
	t.Helper()
	a, want := x.run(), x.model(x)
	if a != want {
		t.Errorf("%v: %v; want %v", x, a, want)
	}
	return a
}

func answerOf(n int, ok bool, e api.Errno) answer { return answer{n, ok, e} }

func gainAnswer(n int, e api.Errno) answer { return answer{n: n, e: e} }

// operations returns the package's functions.
func operations() []operation {
	return []operation{
		{"Of", func(x call) answer { return answerOf(margin.Of(x.c, x.p, x.lot)) }, func(x call) answer { return answerOf(modelOf(x.c, x.p, x.lot)) }},
		{"Gain", func(x call) answer { return gainAnswer(margin.Gain(x.rule, x.cands, x.marks, x.w, x.other)) }, func(x call) answer { return gainAnswer(modelGain(x.rule, x.cands, x.marks, x.w, x.other)) }},
		{"Least", func(x call) answer { return answerOf(margin.Least(x.gains, x.counts, x.need)) }, func(x call) answer { return answerOf(modelLeast(x.gains, x.counts, x.need)) }},
	}
}

func roomyInts(l []int) []int { return append(slices.Clone(l), 1, 0, 7, -1, 1000)[:len(l)] }

// roomy returns p in memory of its own, with rows behind its length, and numbers behind those of the marks.
func roomy(p api.Profile) api.Profile {
	var rows []api.Row
	for _, r := range slices.Concat(p.Rows, []api.Row{row(3), row(1, 0), row(-7, 5, 5)}) {
		rows = append(rows, api.Row{Marks: roomyInts(r.Marks), Many: r.Many})
	}
	p.Rows = rows[:len(p.Rows)]
	return p
}

// roomyContest is like roomy, for contests.
func roomyContest(c api.Contest) api.Contest {
	c.Cands = append(slices.Clone(c.Cands), "cand77", "cand0")[:len(c.Cands)]
	return c
}

// randomCall returns arguments that are right for each function.
func randomCall(random *rand.Rand, rule uint8) call {
	e := randomElection(random, rule)
	if random.Intn(2) == 0 {
		p := spread(random, rule)
		e = election{contestOf(rule, p.Cands, 1+random.Intn(mostSeats(rule, p.Cands))), p, random.Perm(p.Cands)}
	}
	x := call{c: e.c, p: e.p, lot: e.lot, rule: 1 + rule%4, cands: 2 + random.Intn(9)}
	x.marks = randomMarks(random, x.cands, kindOf(x.rule))
	x.w = random.Intn(x.cands)
	x.other = (x.w + 1 + random.Intn(x.cands-1)) % x.cands
	for range random.Intn(9) {
		x.gains, x.counts = append(x.gains, random.Intn(20)), append(x.counts, random.Intn(30))
	}
	x.need = random.Intn(900)
	return x
}

// calls returns calls of each function, right and wrong, with lists that have room behind them.
func calls() []call {
	random := rand.New(rand.NewSource(2351))
	var all []call
	for i := range 320 {
		rule := uint8(1 + i%16)
		x := randomCall(random, rule)
		switch i / 16 % 10 {
		case 3:
			x.c, x.rule, x.cands, x.gains = contestOf(rule, 11, 1), 0, 11, spoiltList(random, x.gains)
		case 4:
			x.p, x.marks, x.need = spoilt(random, x.p), spoiltList(random, x.marks), randomWild(random)
		case 5:
			x.c, x.other = contestOf(rule, x.p.Cands%10+1, 1), x.w
			x.counts = append(slices.Clone(x.counts), 3)
		case 6:
			x.lot, x.w, x.counts = spoiltList(random, x.lot), randomWild(random), spoiltList(random, x.counts)
		case 7:
			x.p.Rows, x.cands, x.need = nil, 1, 0
		case 8:
			x.p.Kind, x.rule, x.need = rule%3+1, rule, 10000
		}
		for _, x.operation = range operations() {
			m := x
			m.c, m.p, m.lot, m.marks, m.gains, m.counts = roomyContest(x.c), roomy(x.p), roomyInts(x.lot), roomyInts(x.marks), roomyInts(x.gains), roomyInts(x.counts)
			all = append(all, m)
		}
	}
	return all
}

func TestCallsHaveTheModelsAnswers(t *testing.T) {
	type kind struct {
		name string
		ok   bool
		e    api.Errno
	}
	seen := map[kind]int{}
	for _, x := range calls() {
		a := x.check(t)
		seen[kind{x.name, a.ok, a.e}]++
	}
	for _, k := range []kind{{"Of", true, 0}, {"Of", false, 0}, {"Of", false, api.ErrMany}, {"Of", false, api.ErrBad}, {"Of", false, api.ErrFit}, {"Of", false, api.ErrArg}, {"Of", false, api.ErrNone}, {"Gain", false, 0}, {"Gain", false, api.ErrArg}, {"Least", true, 0}, {"Least", false, 0}, {"Least", false, api.ErrArg}} {
		if seen[k] < 9 {
			t.Errorf("the calls have %d answers like %v", seen[k], k)
		}
	}
}

// R1

// The numbers of the errors are those of the document.
func TestR1ErrorNumbers(t *testing.T) {
	p := of(2, 1, row(1, 0))
	right := contestOf(9, 2, 1)
	var got []int
	for _, x := range []election{{contestOf(9, 11, 1), p, upTo(2)}, {contestOf(9, 2, 2), p, upTo(2)}, {right, of(2, 1, make([]api.Row, 65)...), upTo(2)}, {right, of(2, 4), upTo(2)}, {right, of(2, 1, row(million+1)), upTo(2)}, {right, of(3, 1), upTo(2)}, {right, of(2, 2), upTo(2)}, {right, p, upTo(3)}, {right, of(2, 1), upTo(2)}, {right, p, upTo(2)}} {
		_, _, e := margin.Of(x.c, x.p, x.lot)
		got = append(got, int(e))
	}
	_, gain := margin.Gain(5, 2, nil, 0, 1)
	_, gainOK := margin.Gain(4, 2, nil, 0, 1)
	_, _, least := margin.Least(nil, ints(1), 0)
	_, _, leastOK := margin.Least(nil, nil, 0)
	if got = append(got, int(gain), int(gainOK), int(least), int(leastOK)); !slices.Equal(got, []int{4, 8, 9, 8, 4, 270, 270, 2, 6, 0, 2, 0, 2, 0}) {
		t.Errorf("the errors are %v", got)
	}
}

// Also beside the false of gains that are not enough there is no number.
func TestR1NothingBesideAnError(t *testing.T) {
	failed, missed := 0, 0
	for _, x := range calls() {
		a := x.run()
		if a.e == api.OK && (x.name != "Least" || a.ok) {
			continue
		}
		if a.e != api.OK {
			failed++
		} else {
			missed++
		}
		if a.n != 0 || a.ok {
			t.Errorf("%v: %v", x, a)
		}
	}
	if failed < 200 || missed < 50 {
		t.Errorf("%d calls fail, and %d have too small gains", failed, missed)
	}
}

// R2

// memory returns a text of all that the arguments hold, up to the capacities.
func (x call) memory() string {
	s := fmt.Sprint(x.c.Name, len(x.c.Cands), x.c.Cands[:cap(x.c.Cands)], x.c.Seats, x.c.Rule, x.p.Cands, x.p.Kind, len(x.p.Rows), x.rule, x.cands, x.w, x.other, x.need)
	for _, l := range [][]int{x.lot, x.marks, x.gains, x.counts} {
		s += fmt.Sprint(len(l), l[:cap(l)])
	}
	for _, r := range x.p.Rows[:cap(x.p.Rows)] {
		s += fmt.Sprint(len(r.Marks), r.Marks[:cap(r.Marks)], r.Many)
	}
	return s
}

// scribbleArguments overwrites the memory of all arguments.
func (x call) scribbleArguments() {
	for i := range x.c.Cands[:cap(x.c.Cands)] {
		x.c.Cands[:cap(x.c.Cands)][i] = "scribble"
	}
	for i, r := range x.p.Rows[:cap(x.p.Rows)] {
		scribbleInts(r.Marks)
		x.p.Rows[:cap(x.p.Rows)][i] = row(r.Many^0x5a5, 99)
	}
	for _, l := range [][]int{x.lot, x.marks, x.gains, x.counts} {
		scribbleInts(l)
	}
}

func scribbleInts(l []int) {
	for i := range l[:cap(l)] {
		l[:cap(l)][i] ^= 0x5a5
	}
}

func TestR2ArgumentsStay(t *testing.T) {
	for _, x := range calls() {
		before := x.memory()
		x.run()
		if x.memory() != before {
			t.Errorf("%v: the memory of an argument changes", x)
		}
	}
}

// What is behind the length of a list does not matter.
func TestR2NothingBehindAList(t *testing.T) {
	for _, x := range calls() {
		want := x.run()
		x.c.Cands, x.lot, x.marks, x.gains, x.counts = slices.Clip(x.c.Cands), slices.Clip(x.lot), slices.Clip(x.marks), slices.Clip(x.gains), slices.Clip(x.counts)
		x.p.Rows = slices.Clone(x.p.Rows)
		for i := range x.p.Rows {
			x.p.Rows[i].Marks = slices.Clip(x.p.Rows[i].Marks)
		}
		if a := x.run(); a != want {
			t.Errorf("%v: %v; with room %v", x, a, want)
		}
	}
}

// A second answer depends neither on the first, nor on what became of its arguments, nor on calls between.
func TestR2NothingIsKept(t *testing.T) {
	between := calls()
	again := calls()
	for i, x := range calls() {
		want := x.run()
		x.scribbleArguments()
		for j := i % 97; j < len(between); j += 97 {
			between[j].run()
		}
		if a := again[i].run(); a != want {
			t.Errorf("%v: the second answer is %v; want %v", again[i], a, want)
		}
	}
}

// Calls at the same time do not disturb each other, also with the same arguments.
func TestR2CallsAtTheSameTime(t *testing.T) {
	all := calls()
	var joined sync.WaitGroup
	for range 4 {
		joined.Go(func() {
			for _, x := range all {
				if a, want := x.run(), x.model(x); a != want {
					t.Errorf("%v: %v; want %v", x, a, want)
				}
			}
		})
	}
	joined.Wait()
}

// The arguments may share their memory with each other.
func TestR2OneMemory(t *testing.T) {
	l := ints(1, 2, 0)
	p := of(3, 1, api.Row{Marks: l[2:], Many: 1}, api.Row{Marks: l[:1], Many: 2}, api.Row{Marks: l[:2], Many: 2}, api.Row{Marks: l, Many: 3}, api.Row{Marks: l[1:], Many: 4})
	for _, rule := range rulesOf(1) {
		for seats := 1; seats <= mostSeats(rule, 3); seats++ {
			checkModelOf(t, contestOf(rule, 3, seats), p, l)
		}
	}
	checkLeast(t, l, l, 5, 3, true) // two gains of 2, one of 1
	checkLeast(t, l, l, 6, 0, false)
	checkLeast(t, l[:2], l[1:], 2, 2, true) // no gain of 2, and two of 1
	checkGain(t, 4, 3, l, l[0], l[2], 4)
	if !slices.Equal(l, ints(1, 2, 0)) {
		t.Errorf("the arguments become %v", l)
	}
}

// R3

func TestR3NilAndEmptyAreEqual(t *testing.T) {
	for _, empty := range [][]int{nil, {}, upTo(3)[:0], make([]int, 0, 20)} {
		for _, other := range [][]int{nil, {}, upTo(3)[:0]} {
			checkLeast(t, empty, other, 0, 0, true)
			checkLeast(t, empty, other, 1, 0, false)
		}
		checkNoLeast(t, empty, ints(0), 0)
		checkNoLeast(t, ints(0), empty, 0)
		checkGain(t, 1, 5, empty, 0, 1, 1)
		checkGain(t, 2, 5, empty, 0, 1, 1)
		checkNoGain(t, 3, 5, empty, 0, 1)
		checkGain(t, 4, 5, empty, 0, 1, 4)
		for _, rule := range ruleNumbers() {
			kind := kindOf(rule)
			c := contestOf(rule, 3, 1)
			checkNoOf(t, c, of(3, kind), empty, api.ErrArg)
			for _, rows := range [][]api.Row{nil, {}, make([]api.Row, 5)[:0]} {
				checkNoOf(t, c, of(3, kind, rows...), upTo(3), api.ErrNone)
			}
			if blank := of(3, kind, api.Row{Marks: empty, Many: 3}); kind == 3 {
				checkNoOf(t, c, blank, upTo(3), api.ErrBad)
			} else {
				checkOf(t, c, blank, upTo(3), 1, isExact(rule))
			}
			for _, names := range [][]string{nil, {}, make([]string, 0, 4), {""}} {
				checkNoOf(t, api.Contest{Name: "a", Cands: names, Seats: 1, Rule: rule}, of(3, kind), empty, api.ErrBad)
			}
		}
	}
}

// R4 bears on no call of the package by itself; it does on the text of the points that a margin refers to.
func TestR4PointsAsText(t *testing.T) {
	p := votes([]api.Row{row(3)}, 15, 8)
	o, _ := count.Run(contestOf(1, 2, 1), p, upTo(2))
	var points []int
	for _, x := range o.Rounds[0].Had {
		s, e := ratio.Text(x)
		n, wrong := strconv.Atoi(s)
		if e != api.OK || wrong != nil {
			t.Errorf("%v has the text %q", x, s)
		}
		points = append(points, n)
	}
	if !slices.Equal(points, ints(15, 8)) {
		t.Errorf("the points are %v", points)
	}
	checkOf(t, contestOf(1, 2, 1), p, ints(0, 1), (points[0]-points[1]+1+1)/2, true)
	checkOf(t, contestOf(1, 2, 1), p, ints(1, 0), (points[0]-points[1]+1)/2, true)
}

// R5: the lot is the order among equals, so that one more is needed where the candidate that is ahead comes first in it.
func TestR5TheLot(t *testing.T) {
	for _, lot := range lots(2) {
		first := behind(lot, 0, 1)
		checkOf(t, contestOf(1, 2, 1), votes(nil, 9, 5), lot, 2+first, true)
		checkOf(t, contestOf(2, 2, 1), votes(nil, 9, 5), lot, 2+first, true)
		checkOf(t, contestOf(3, 2, 1), of(2, 3, row(4, 0, 10), row(8, 10, 0)), lot, 2+first, true)
		checkOf(t, contestOf(4, 2, 1), of(2, 1, row(9, 0), row(5, 1)), lot, 2+first, true)
		checkOf(t, contestOf(14, 2, 1), votes(nil, 9, 5), lot, 2+first, true)
		checkOf(t, contestOf(15, 2, 1), votes(nil, 9, 5), lot, 2+first, true)
		checkOf(t, contestOf(9, 3, 1), of(3, 1, row(14, 0), row(10, 1, 2), row(16, 2)), append(slices.Clone(lot), 2), 2+first, false)
	}
	for _, rule := range []uint8{5, 6, 7, 8} { // pairwise margins are as they are
		for _, lot := range lots(2) {
			checkOf(t, contestOf(rule, 2, 1), of(2, 1, row(9, 0), row(5, 1)), lot, 2, false)
		}
	}
}

// R6

// Halves and quotients are rounded up, as the document states.
func TestR6RoundedUp(t *testing.T) {
	for n := range 30 {
		checkLeast(t, ints(7), ints(20), n, n/7+min(n%7, 1), true)
		if n > 0 {
			checkOf(t, contestOf(5, 2, 1), of(2, 1, row(n, 0)), upTo(2), n/2+n%2, false)
			checkOf(t, contestOf(9, 2, 1), of(2, 1, row(n, 0)), upTo(2), n/2+n%2, false)
			checkOf(t, contestOf(1, 2, 1), of(2, 2, row(n, 0)), ints(1, 0), n/2+n%2, true)
		}
	}
}

// Numbers are taken as they are, and not in fewer bits.
func TestR6NothingOverflows(t *testing.T) {
	for _, size := range ints(8, 16, 20, 31, 32, 33, 62) {
		for more := range 4 {
			for _, far := range ints(1<<size+more, more-1<<size) {
				for _, rule := range ruleNumbers() {
					p := someBallots(3, kindOf(rule))
					checkNoOf(t, contestOf(rule, 3, far), p, upTo(3), api.ErrBad)
					checkNoOf(t, contestOf(rule, 3, 1), p, ints(0, 1, far), api.ErrArg)
					checkNoOf(t, contestOf(rule, 3, 1), of(far, p.Kind), upTo(3), api.ErrBad)
				}
				for rule := uint8(1); rule <= 4; rule++ {
					marks := rightMarks(rule, 4)
					checkNoGain(t, rule, far, marks, 0, 1)
					checkNoGain(t, rule, 4, marks, far, 1)
					checkNoGain(t, rule, 4, marks, 1, far)
					checkNoGain(t, rule, 4, ints(far), 0, 1)
					checkNoGain(t, rule, 4, ints(0, 0, 0, far), 0, 1)
				}
				if size > 16 || far < 0 {
					checkNoLeast(t, ints(5, far), ints(1, 1), 1)
					checkNoLeast(t, ints(1, 1), ints(5, far), 1)
				}
				checkLeast(t, ints(1), ints(3), far, 0, far <= 0)
			}
		}
	}
	most := slices.Repeat(ints(million), 64)
	for _, far := range ints(64*million*million+1, 1<<62, math.MaxInt) {
		checkLeast(t, most, most, far, 0, false)
	}
	checkLeast(t, most, most, 1<<45, 35184373, true) // 35184372088832 in millions
}

// R7

// A panic or an endless call would fail the test by itself.
func TestR7AnyArguments(t *testing.T) {
	long := upTo(300)
	profiles := []api.Profile{of(math.MinInt, 255, row(math.MinInt, math.MinInt)), of(3, 2, make([]api.Row, 300)...), of(3, 1, row(1, long...)), of(3, 2, row(1, long...)), of(300, 3, row(1, long...)), of(3, 1), {}}
	for i, number := range wilds() {
		for j, other := range wilds() {
			x := call{c: contestOf(uint8(number), i%13, other), lot: ints(number, other, 1), rule: uint8(i % 6), cands: number, marks: ints(other), w: other, other: number, gains: ints(number, 1), counts: ints(other, 3), need: number}
			if i%3 == 0 {
				x.c, x.lot, x.cands, x.w, x.need = contestOf(uint8(j%19), 3, 1), ints(2, 0, 1), 3, 0, other
			}
			if j%5 == 0 {
				x.lot = long[:max(0, min(number, 300))]
				x.marks, x.gains, x.counts, x.other = x.lot, x.lot, x.lot, 1
			}
			for _, x.p = range []api.Profile{profiles[(i+j*7)%len(profiles)], of(number, 2), of(3, 2, row(number, 0, other, 1)), of(3, 2), of(3, 1, row(1, 0), row(1, 1))} {
				for _, x.operation = range operations() {
					x.check(t)
				}
				x.rule, x.marks, x.gains = x.rule+1, ints(number, other), ints(other, number)
			}
		}
	}
}

func TestR7GreatArguments(t *testing.T) {
	long := make([]int, 1<<18)
	name := strings.Repeat("a", 1<<18)
	for _, rule := range ruleNumbers() {
		kind := kindOf(rule)
		right := contestOf(rule, 3, 1)
		checkNoOf(t, contestOf(rule, 1<<12, 1), of(3, kind), upTo(3), api.ErrMany)
		checkNoOf(t, api.Contest{Name: name, Cands: []string{name}, Seats: 1, Rule: rule}, of(3, kind), upTo(3), api.ErrBad)
		checkNoOf(t, right, of(3, kind, row(1, long...)), upTo(3), api.ErrBad)
		checkNoOf(t, right, of(3, kind, make([]api.Row, 1<<18)...), upTo(3), api.ErrFull)
		checkNoOf(t, right, of(3, kind), long, api.ErrArg)
	}
	for rule := uint8(1); rule <= 4; rule++ {
		checkNoGain(t, rule, 10, long, 0, 1)
		checkNoGain(t, rule, math.MaxInt, long, 0, math.MaxInt-1)
	}
	checkNoLeast(t, long, long, 0)
	checkNoLeast(t, long, nil, 1)
	checkNoLeast(t, nil, long, 1)
}

func TestR7RandomCalls(t *testing.T) {
	random := rand.New(rand.NewSource(2352))
	seen := map[api.Errno]int{}
	for range 4000 {
		x := randomCall(random, uint8(1+random.Intn(16)))
		switch random.Intn(6) {
		case 0:
			x.p, x.rule, x.gains = spoilt(random, x.p), uint8(random.Intn(20)), spoiltList(random, x.gains)
		case 1:
			x.lot, x.cands, x.counts = spoiltList(random, x.lot), randomWild(random), spoiltList(random, x.counts)
		case 2:
			x.c, x.marks, x.need = spoiltContest(random, x.c), spoiltList(random, x.marks), randomWild(random)
		case 3:
			x.c, x.p, x.lot, x.marks, x.gains, x.counts = spoiltContest(random, x.c), spoilt(random, x.p), spoiltList(random, x.lot), spoiltList(random, x.marks), spoiltList(random, x.gains), spoiltList(random, x.counts)
		case 4:
			x.p, x.w, x.other = randomProfile(random, x.p.Cands, uint8(1+random.Intn(3))), randomWild(random), randomWild(random)
		}
		for _, x.operation = range operations() {
			seen[x.check(t).e]++
		}
	}
	for _, e := range []api.Errno{api.OK, api.ErrArg, api.ErrMany, api.ErrNone, api.ErrBad, api.ErrFit} {
		if seen[e] < 20 {
			t.Errorf("%d calls have the error %d", seen[e], int(e))
		}
	}
}
