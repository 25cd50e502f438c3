package count_test

import (
	"fmt"
	"math"
	"math/rand"
	"runtime"
	"slices"
	"strings"
	"sync"
	"testing"
	"unsafe"

	"suffrage/api"
	"suffrage/count"
	"suffrage/ratio"
)

// answer is all that a call returns, in one form for all calls.
type answer struct {
	o     api.Outcome
	seats []int
	same  bool
	e     api.Errno
}

func (a answer) equal(b answer) bool {
	return same(a.o, b.o) && slices.Equal(a.seats, b.seats) && a.same == b.same && a.e == b.e
}

// twin returns a copy of a, with memory of its own.
func (a answer) twin() answer {
	a.o, a.seats = twin(a.o), slices.Clone(a.seats)
	return a
}

// String shows an answer in a report.
func (a answer) String() string {
	return fmt.Sprintf("(%s, seats %v, %v, error %d)", tell(a.o), a.seats, a.same, int(a.e))
}

// operation is a function of the package, and the model's.
type operation struct {
	name      string
	do, model func(x call) answer
}

// call is a call with its arguments, of which each function takes its own.
type call struct {
	operation
	c         api.Contest
	p         api.Profile
	lot, perm []int
	o, other  api.Outcome
	cands     int
}

func (x call) String() string {
	switch some := func(l []int) []int { return l[:min(len(l), 50)] }; x.name {
	case "Run":
		return fmt.Sprintf("Run(%s; %s; %v)", showContest(x.c), show(x.p), some(x.lot))
	case "Seats":
		return fmt.Sprintf("Seats(%s, %d)", tell(x.o), x.cands)
	case "Rename":
		return fmt.Sprintf("Rename(%s, %v)", tell(x.o), some(x.perm))
	case "Same":
		return fmt.Sprintf("Same(%s; %s)", tell(x.o), tell(x.other))
	}
	return fmt.Sprintf("Twin(%s)", tell(x.o))
}

// run returns the answer of the call.
func (x call) run() answer { return x.do(x) }

// check holds the answer against the model's, and returns it.
func (x call) check(t *testing.T) answer {
	t.Helper()
	a, want := x.run(), x.model(x)
	if !a.equal(want) {
		t.Errorf("%v: %v; want %v", x, a, want)
	}
	return a
}

func outcomeAnswer(o api.Outcome, e api.Errno) answer { return answer{o: o, e: e} }

func seatsAnswer(seats []int, e api.Errno) answer { return answer{seats: seats, e: e} }

// operations returns the package's functions.
func operations() []operation {
	return []operation{
		{"Run", func(x call) answer { return outcomeAnswer(count.Run(x.c, x.p, x.lot)) }, func(x call) answer { return outcomeAnswer(modelRun(x.c, x.p, x.lot)) }},
		{"Seats", func(x call) answer { return seatsAnswer(count.Seats(x.o, x.cands)) }, func(x call) answer { return seatsAnswer(modelSeats(x.o, x.cands)) }},
		{"Rename", func(x call) answer { return outcomeAnswer(count.Rename(x.o, x.perm)) }, func(x call) answer { return outcomeAnswer(modelRename(x.o, x.perm)) }},
		{"Same", func(x call) answer { return answer{same: count.Same(x.o, x.other)} }, func(x call) answer { return answer{same: same(x.o, x.other)} }},
		{"Twin", func(x call) answer { return answer{o: count.Twin(x.o)} }, func(x call) answer { return answer{o: twin(x.o)} }},
	}
}

func roomyInts(l []int) []int { return append(slices.Clone(l), 1, 0, 7, -1, 1000)[:len(l)] }

func roomyLimbs(l []uint32) []uint32 { return append(slices.Clone(l), 1, 0, math.MaxUint32)[:len(l)] }

func roomyNumber(x api.Ratio) api.Ratio {
	return api.Ratio{Neg: x.Neg, Num: roomyLimbs(x.Num), Den: roomyLimbs(x.Den)}
}

// roomy returns p in memory of its own, with rows behind its length, and numbers behind those of the marks.
func roomy(p api.Profile) api.Profile {
	var rows []api.Row
	for _, r := range slices.Concat(p.Rows, []api.Row{row(3), row(1, 0), row(-7, 5, 5)}) {
		rows = append(rows, api.Row{Marks: roomyInts(r.Marks), Many: r.Many})
	}
	p.Rows = rows[:len(p.Rows)]
	return p
}

// roomyContest is like roomy, for contests.
func roomyContest(c api.Contest) api.Contest {
	c.Cands = append(slices.Clone(c.Cands), "cand77", "cand0")[:len(c.Cands)]
	return c
}

// roomyOutcome is like roomy, for outcomes.
func roomyOutcome(o api.Outcome) api.Outcome {
	all := api.Outcome{Elected: roomyInts(o.Elected)}
	for _, r := range slices.Concat(o.Rounds, longOutcome().Rounds) {
		room := api.Round{Lost: roomyNumber(r.Lost), Elected: roomyInts(r.Elected), Out: roomyInts(r.Out)}
		for _, x := range slices.Concat(r.Had, []api.Ratio{number("1/2"), {}, number("-5")}) {
			room.Had = append(room.Had, roomyNumber(x))
		}
		room.Had = room.Had[:len(r.Had)]
		all.Rounds = append(all.Rounds, room)
	}
	for _, x := range slices.Concat(o.Ties, longOutcome().Ties) {
		all.Ties = append(all.Ties, tie(x.Chosen, roomyInts(x.Among)...))
		all.Ties[len(all.Ties)-1].Among = roomyInts(x.Among)
	}
	all.Rounds, all.Ties = all.Rounds[:len(o.Rounds)], all.Ties[:len(o.Ties)]
	return all
}

// calls returns calls of each function, right and wrong, with lists that have room behind them.
func calls() []call {
	random := rand.New(rand.NewSource(2251))
	wild := wildOutcomes()
	var all []call
	for i := range 160 {
		rule := uint8(1 + i%16)
		x := randomElection(random, rule)
		cands := x.p.Cands
		o, _ := modelRun(x.c, x.p, x.lot)
		if i%3 == 1 {
			o = randomOutcome(random, cands)
		}
		n := call{c: x.c, p: x.p, lot: x.lot, perm: random.Perm(cands), o: o, other: o, cands: cands}
		switch i / 16 % 10 {
		case 3:
			n.c, n.cands = contestOf(rule, 11, 1), 11
		case 4:
			n.p, n.perm = spoilt(random, x.p), spoiltList(random, n.perm)
		case 5:
			n.c, n.o = contestOf(rule, cands%10+1, 1), wild[i%len(wild)]
		case 6:
			n.lot, n.perm, n.other = spoiltList(random, x.lot), spoiltList(random, n.perm), wild[i%len(wild)]
		case 7:
			n.c.Seats, n.other, n.cands = 0, longOutcome(), 0
			n.o.Elected = append(slices.Clone(o.Elected), -1)
		case 8:
			n.p.Kind = rule%3 + 1
		}
		for _, n.operation = range operations() {
			m := n
			m.c, m.p, m.lot, m.perm, m.o, m.other = roomyContest(n.c), roomy(n.p), roomyInts(n.lot), roomyInts(n.perm), roomyOutcome(n.o), roomyOutcome(n.other)
			all = append(all, m)
		}
	}
	return all
}

func TestCallsHaveTheModelsAnswers(t *testing.T) {
	type kind struct {
		name string
		same bool
		e    api.Errno
	}
	seen := map[kind]int{}
	for _, x := range calls() {
		a := x.check(t)
		seen[kind{x.name, a.same, a.e}]++
	}
	for _, k := range []kind{{"Run", false, 0}, {"Run", false, api.ErrMany}, {"Run", false, api.ErrBad}, {"Run", false, api.ErrFit}, {"Run", false, api.ErrArg}, {"Seats", false, 0}, {"Seats", false, api.ErrArg}, {"Rename", false, 0}, {"Rename", false, api.ErrArg}, {"Same", true, 0}, {"Same", false, 0}, {"Twin", false, 0}} {
		if seen[k] < 9 {
			t.Errorf("the calls have %d answers like %v", seen[k], k)
		}
	}
}

// R1

// The numbers of the errors are those of the document.
func TestR1ErrorNumbers(t *testing.T) {
	p := of(2, 1)
	right := contestOf(9, 2, 1)
	var got []int
	for _, x := range []struct {
		c   api.Contest
		p   api.Profile
		lot []int
	}{{contestOf(9, 11, 1), p, upTo(2)}, {contestOf(9, 2, 2), p, upTo(2)}, {right, of(2, 1, make([]api.Row, 65)...), upTo(2)}, {right, of(2, 4), upTo(2)}, {right, of(2, 1, row(million+1)), upTo(2)}, {right, of(3, 1), upTo(2)}, {right, of(2, 2), upTo(2)}, {right, p, upTo(3)}, {right, p, upTo(2)}} {
		_, e := count.Run(x.c, x.p, x.lot)
		got = append(got, int(e))
	}
	_, seats := count.Seats(api.Outcome{}, 0)
	_, rename := count.Rename(api.Outcome{}, nil)
	_, seatsOK := count.Seats(api.Outcome{}, 1)
	_, renameOK := count.Rename(api.Outcome{}, ints(0))
	if got = append(got, int(seats), int(rename), int(seatsOK), int(renameOK)); !slices.Equal(got, []int{4, 8, 9, 8, 4, 270, 270, 2, 0, 2, 2, 0, 0}) {
		t.Errorf("the errors are %v", got)
	}
}

func TestR1NothingBesideAnError(t *testing.T) {
	failed := 0
	for _, x := range calls() {
		a := x.run()
		if a.e == api.OK {
			continue
		}
		failed++
		if !isNothing(a.o) || a.seats != nil || a.same {
			t.Errorf("%v: %v", x, a)
		}
	}
	if failed < 100 {
		t.Errorf("%d calls fail", failed)
	}
}

// R2

// memoryOf returns a text of all that an outcome holds, up to the capacities.
func memoryOf(o api.Outcome) string {
	number := func(x api.Ratio) string {
		return fmt.Sprint(x.Neg, len(x.Num), x.Num[:cap(x.Num)], len(x.Den), x.Den[:cap(x.Den)])
	}
	s := fmt.Sprint(len(o.Elected), o.Elected[:cap(o.Elected)], len(o.Rounds), len(o.Ties))
	for _, r := range o.Rounds[:cap(o.Rounds)] {
		s += fmt.Sprint(number(r.Lost), len(r.Had), len(r.Elected), r.Elected[:cap(r.Elected)], len(r.Out), r.Out[:cap(r.Out)])
		for _, x := range r.Had[:cap(r.Had)] {
			s += number(x)
		}
	}
	for _, x := range o.Ties[:cap(o.Ties)] {
		s += fmt.Sprint(x.Chosen, len(x.Among), x.Among[:cap(x.Among)])
	}
	return s
}

// memory returns a text of all that the arguments hold, up to the capacities.
func (x call) memory() string {
	s := fmt.Sprint(x.c.Name, len(x.c.Cands), x.c.Cands[:cap(x.c.Cands)], x.c.Seats, x.c.Rule, x.p.Cands, x.p.Kind, len(x.p.Rows), len(x.lot), x.lot[:cap(x.lot)], len(x.perm), x.perm[:cap(x.perm)], x.cands)
	for _, r := range x.p.Rows[:cap(x.p.Rows)] {
		s += fmt.Sprint(len(r.Marks), r.Marks[:cap(r.Marks)], r.Many)
	}
	return s + memoryOf(x.o) + memoryOf(x.other)
}

func scribbleInts(l []int) {
	for i := range l[:cap(l)] {
		l[:cap(l)][i] ^= 0x5a5
	}
}

func scribbleNumbers(l ...api.Ratio) {
	for i, x := range l {
		for _, limbs := range [][]uint32{x.Num[:cap(x.Num)], x.Den[:cap(x.Den)]} {
			for j := range limbs {
				limbs[j] ^= 0x5a5
			}
		}
		l[i].Neg = !x.Neg
	}
}

// scribble overwrites the memory of an outcome, up to the capacities.
func scribble(o api.Outcome) {
	scribbleInts(o.Elected)
	for i, r := range o.Rounds[:cap(o.Rounds)] {
		scribbleInts(r.Elected)
		scribbleInts(r.Out)
		scribbleNumbers(r.Lost)
		scribbleNumbers(r.Had[:cap(r.Had)]...)
		o.Rounds[:cap(o.Rounds)][i] = api.Round{Out: ints(5)}
	}
	for i, x := range o.Ties[:cap(o.Ties)] {
		scribbleInts(x.Among)
		o.Ties[:cap(o.Ties)][i] = tie(x.Chosen^0x5a5, 5)
	}
}

// scribbleArguments overwrites the memory of all arguments.
func (x call) scribbleArguments() {
	scribbleInts(x.lot)
	scribbleInts(x.perm)
	scribble(x.o)
	scribble(x.other)
	for i := range x.c.Cands[:cap(x.c.Cands)] {
		x.c.Cands[:cap(x.c.Cands)][i] = "scribble"
	}
	for i, r := range x.p.Rows[:cap(x.p.Rows)] {
		scribbleInts(r.Marks)
		x.p.Rows[:cap(x.p.Rows)][i] = row(r.Many^0x5a5, 99)
	}
}

// scribble overwrites the memory of an answer, up to the capacities.
func (a answer) scribble() {
	scribble(a.o)
	scribbleInts(a.seats)
}

func TestR2ArgumentsStay(t *testing.T) {
	for _, x := range calls() {
		before := x.memory()
		x.run()
		if x.memory() != before {
			t.Errorf("%v: the memory of an argument changes", x)
		}
	}
}

func TestR2AnswersShareNothingWithArguments(t *testing.T) {
	rounds, ties, seats := 0, 0, 0
	for _, x := range calls() {
		before := x.memory()
		a := x.run()
		want := a.twin()
		a.scribble()
		if x.memory() != before {
			t.Errorf("%v: an argument changes with the answer", x)
		}
		a = x.run()
		x.scribbleArguments()
		if !a.equal(want) {
			t.Errorf("the answer of %s changes with the arguments: %v; want %v", x.name, a, want)
		}
		rounds += len(a.o.Rounds)
		ties += len(a.o.Ties)
		seats += len(a.seats)
	}
	if rounds < 300 || ties < 200 || seats < 200 {
		t.Errorf("the answers have %d rounds, %d ties, and %d numbers of seats", rounds, ties, seats)
	}
}

// span is a piece of memory.
type span struct {
	name       string
	start, end uintptr
}

func spanOf[T any](name string, l []T) span {
	var one T
	start := uintptr(unsafe.Pointer(unsafe.SliceData(l)))
	return span{name, start, start + uintptr(cap(l))*unsafe.Sizeof(one)}
}

// spans returns the memory of each list of an outcome, up to its capacity.
func spans(name string, o api.Outcome) []span {
	l := []span{spanOf("Elected", o.Elected), spanOf("Rounds", o.Rounds), spanOf("Ties", o.Ties)}
	var numbers []api.Ratio
	for _, r := range o.Rounds {
		l = append(l, spanOf("Elected of a round", r.Elected), spanOf("Out", r.Out), spanOf("Had", r.Had))
		numbers = append(append(numbers, r.Had...), r.Lost)
	}
	for _, n := range numbers {
		l = append(l, spanOf("Num", n.Num), spanOf("Den", n.Den))
	}
	for _, x := range o.Ties {
		l = append(l, spanOf("Among", x.Among))
	}
	for i := range l {
		l[i].name += " of " + name
	}
	return l
}

// The lists of an answer, of all answers and of all arguments have each its own memory, also between the length and the capacity.
func TestR2PartsOfAnswersShareNothing(t *testing.T) {
	var kept []call
	var answers []answer
	var memory []span
	for _, x := range calls() {
		a := x.run()
		kept, answers = append(kept, x), append(answers, a)
		memory = append(append(memory, spans(x.name, a.o)...), spanOf("Seats", a.seats), spanOf("the lot", x.lot), spanOf("the permutation", x.perm), spanOf("the candidates", x.c.Cands), spanOf("the rows", x.p.Rows))
		memory = append(append(memory, spans("an argument", x.o)...), spans("another argument", x.other)...)
		for _, r := range x.p.Rows {
			memory = append(memory, spanOf("Marks", r.Marks))
		}
	}
	memory = slices.DeleteFunc(memory, func(s span) bool { return s.start == s.end })
	slices.SortFunc(memory, func(s, o span) int { return int(s.start) - int(o.start) })
	for i := 1; i < len(memory); i++ {
		if memory[i].start < memory[i-1].end {
			t.Errorf("%s and %s share memory", memory[i-1].name, memory[i].name)
		}
	}
	if len(memory) < 10000 {
		t.Errorf("there are %d lists", len(memory))
	}
	runtime.KeepAlive(answers)
	runtime.KeepAlive(kept)
}

// To append to a list of an answer changes no other one of it.
func TestR2AppendingToAnAnswer(t *testing.T) {
	for _, x := range calls() {
		a := x.run()
		want := a.twin()
		_, _, _, _ = append(a.seats, 77), append(a.o.Elected, 77), append(a.o.Ties, tie(77, 77)), append(a.o.Rounds, api.Round{Out: []int{77}})
		for _, r := range a.o.Rounds {
			_, _, _ = append(r.Elected, 77), append(r.Out, 77), append(r.Had, number("77"))
			for _, n := range append(slices.Clone(r.Had), r.Lost) {
				_, _ = append(n.Num, 77), append(n.Den, 77)
			}
		}
		for _, d := range a.o.Ties {
			_ = append(d.Among, 77)
		}
		if !a.equal(want) {
			t.Errorf("%v: %v; want %v", x, a, want)
		}
	}
}

// A second answer depends neither on the first, nor on what became of it, nor on calls between.
func TestR2NothingIsKept(t *testing.T) {
	between := calls()
	for i, x := range calls() {
		first := x.run()
		want := first.twin()
		first.scribble()
		for j := i % 97; j < len(between); j += 97 {
			between[j].run()
		}
		if again := x.run(); !again.equal(want) {
			t.Errorf("%v: the second answer is %v; want %v", x, again, want)
		}
	}
}

// Calls at the same time do not disturb each other, also with the same arguments.
func TestR2CallsAtTheSameTime(t *testing.T) {
	all := calls()
	var joined sync.WaitGroup
	for range 4 {
		joined.Go(func() {
			for _, x := range all {
				if a, want := x.run(), x.model(x); !a.equal(want) {
					t.Errorf("%v: %v; want %v", x, a, want)
				}
			}
		})
	}
	joined.Wait()
}

// The parts of an argument may share their memory with each other, and with the other argument.
func TestR2OneMemory(t *testing.T) {
	l := []int{1, 2, 0}
	limbs := []uint32{1, 2, 1}
	x, y := api.Ratio{Num: limbs[:1], Den: limbs[1:2]}, api.Ratio{Num: limbs[1:2], Den: limbs[:1]}
	had := []api.Ratio{x, y, x}
	rounds := []api.Round{{Had: had, Lost: x, Elected: l, Out: l}, {Had: had, Lost: y, Elected: l[1:], Out: l[:2]}}
	o := api.Outcome{Elected: l, Rounds: rounds, Ties: []api.Tie{{Among: l, Chosen: 2}, {Among: l[:2], Chosen: 1}}}
	want := outcome(ints(2, 0, 1), []round{{"1/2 1/2 2", "1/2", ints(2, 0, 1), ints(2, 0, 1)}, {"1/2 1/2 2", "2", ints(0, 1), ints(2, 0)}}, tie(0, 0, 1, 2), tie(2, 0, 2))
	checkRename(t, o, l, want)
	if n := renamed(t, o, l); !same(n, want) {
		t.Errorf("%s", tell(n))
	} else {
		scribble(n)
	}
	checkSeats(t, o, 3, 1, 1, 1)
	checkTwin(t, o)
	checkSame(t, o, o, true)
	scribble(count.Twin(o))
	p := of(3, 1, api.Row{Marks: l[2:], Many: 1}, api.Row{Marks: l[:1], Many: 2}, api.Row{Marks: l[:2], Many: 2}, api.Row{Marks: l, Many: 3}, api.Row{Marks: l[1:], Many: 4})
	for _, rule := range rulesOf(1) {
		checkModelRun(t, contestOf(rule, 3, 1), p, l)
	}
	if !slices.Equal(l, []int{1, 2, 0}) || !slices.Equal(limbs, []uint32{1, 2, 1}) {
		t.Errorf("the arguments become %v and %v", l, limbs)
	}
}

// R3

// emptied returns o with nil for every list that is empty, or with empty ones for those that are nil.
func emptied(o api.Outcome, nils bool) api.Outcome {
	o = twin(o)
	list := func(l *[]int) {
		if len(*l) == 0 {
			*l = nil
			if !nils {
				*l = make([]int, 3)[:0]
			}
		}
	}
	number := func(x *api.Ratio) {
		for _, limbs := range []*[]uint32{&x.Num, &x.Den} {
			if len(*limbs) == 0 {
				*limbs = nil
				if !nils {
					*limbs = []uint32{}
				}
			}
		}
	}
	list(&o.Elected)
	for i := range o.Rounds {
		r := &o.Rounds[i]
		list(&r.Elected)
		list(&r.Out)
		number(&r.Lost)
		for j := range r.Had {
			number(&r.Had[j])
		}
		if len(r.Had) == 0 {
			r.Had = nil
			if !nils {
				r.Had = []api.Ratio{}
			}
		}
	}
	for i := range o.Ties {
		list(&o.Ties[i].Among)
	}
	if !nils && len(o.Rounds) == 0 {
		o.Rounds = []api.Round{}
	}
	if !nils && len(o.Ties) == 0 {
		o.Ties = make([]api.Tie, 2)[:0]
	}
	return o
}

func TestR3NilAndEmptyAreEqual(t *testing.T) {
	bare := outcome(nil, []round{{"0 1", "0", nil, nil}, {"1 0", "1", nil, nil}}, tie(0), tie(1))
	noTotals := api.Outcome{Rounds: make([]api.Round, 2), Ties: make([]api.Tie, 2)}
	for _, o := range append(wildOutcomes(), bare, noTotals) {
		nils, empties := emptied(o, true), emptied(o, false)
		checkSame(t, nils, empties, true)
		checkSame(t, nils, o, true)
		checkSame(t, empties, o, true)
		checkTwin(t, nils)
		checkTwin(t, empties)
		for _, x := range []api.Outcome{nils, empties} {
			checkModelSeats(t, x, 5)
			for n := 1; n <= 10; n++ {
				checkModelRename(t, x, downFrom(n))
			}
		}
	}
	checkRename(t, emptied(bare, false), ints(1, 0), outcome(nil, []round{{"1 0", "0", nil, nil}, {"0 1", "1", nil, nil}}, tie(1), tie(0)))
	for _, empty := range [][]int{nil, {}, upTo(3)[:0], make([]int, 0, 20)} {
		checkNoRename(t, api.Outcome{}, empty)
		for _, rule := range ruleNumbers() {
			kind := kindOf(rule)
			checkNoRun(t, contestOf(rule, 2, 1), of(2, kind), empty, api.ErrArg)
			checkNoRun(t, contestOf(rule, 2, 1), of(3, kind), empty, api.ErrFit)
			for _, rows := range [][]api.Row{nil, {}, make([]api.Row, 5)[:0]} {
				checkModelRun(t, contestOf(rule, 2, 1), of(2, kind, rows...), downFrom(2))
			}
			checkModelRun(t, contestOf(rule, 2, 1), of(2, kind, api.Row{Marks: empty, Many: 3}), downFrom(2))
			for _, names := range [][]string{nil, {}, make([]string, 0, 4), {""}} {
				checkNoRun(t, api.Contest{Name: "a", Cands: names, Seats: 1, Rule: rule}, of(2, kind), empty, api.ErrBad)
			}
		}
	}
}

// R4 bears on no call of the package by itself; it does on the text of the numbers, which are renamed as they are.
func TestR4NumbersAsText(t *testing.T) {
	p, lot := manyWinners()
	var texts []string
	for _, rule := range []uint8{5, 9} {
		for _, r := range renamed(t, run(t, contestOf(rule, 4, 1), p, lot), downFrom(4)).Rounds {
			for _, x := range append(r.Had, r.Lost) {
				s, e := ratio.Text(x)
				if e != api.OK {
					t.Errorf("%v has no text", x)
				}
				texts = append(texts, s)
			}
		}
	}
	if s := strings.Join(texts, " "); s != "2 1 3/2 3/2 0 1 5 5 5 6 0 6 5 5 6 0 6 0 5 11" {
		t.Errorf("the numbers are %s", s)
	}
}

// R5

// The lot is the order among equals; Had and the seats are in the order of the candidates, and Among is, also after a renaming; always, and not sometimes as the rules are looked up.
func TestR5Order(t *testing.T) {
	for range 50 {
		for _, rule := range ruleNumbers() {
			seats := min(3, mostSeats(rule, 5))
			o := run(t, contestOf(rule, 5, seats), of(5, kindOf(rule)), ints(3, 1, 4, 0, 2))
			want := ints(3, 1, 4)[:seats]
			if rule == 14 || rule == 15 {
				want = ints(3, 3, 3) // as nobody's quotient gets less
			}
			if !slices.Equal(o.Elected, want) {
				t.Errorf("rule %d elects %v", rule, o.Elected)
			}
			for _, x := range append(o.Ties, renamed(t, o, ints(2, 4, 1, 0, 3)).Ties...) {
				if !slices.Equal(x.Among, inOrder(x.Among)) {
					t.Errorf("rule %d has a tie of %v", rule, x.Among)
				}
			}
		}
		checkSeats(t, electing(4, 1, 4, 0, 4, 1), 5, 1, 2, 0, 0, 3)
	}
}

// R6

// Numbers are taken as they are, and not in fewer bits.
func TestR6NothingOverflows(t *testing.T) {
	for _, size := range []int{8, 16, 20, 31, 32, 33, 62} {
		for more := range 4 {
			for _, far := range []int{1<<size + more, more - 1<<size} {
				for _, rule := range ruleNumbers() {
					p := someBallots(3, kindOf(rule))
					checkNoRun(t, contestOf(rule, 3, far), p, upTo(3), api.ErrBad)
					checkNoRun(t, contestOf(rule, 3, 1), p, ints(0, 1, far), api.ErrArg)
					checkNoRun(t, contestOf(rule, 3, 1), of(far, p.Kind), upTo(3), api.ErrBad)
				}
				checkNoSeats(t, electing(), far)
				checkNoSeats(t, electing(0, far), 3)
				checkNoRename(t, electing(far), upTo(3))
				checkNoRename(t, outcome(nil, nil, tie(far)), upTo(3))
				checkNoRename(t, outcome(nil, nil, tie(0, far)), upTo(3))
				checkNoRename(t, electing(0), ints(0, 1, far))
				checkSame(t, electing(more), electing(far), false)
				checkSame(t, outcome(nil, nil, tie(more)), outcome(nil, nil, tie(far)), false)
			}
		}
	}
}

// R7

// A panic or an endless call would fail the test by itself.
func TestR7AnyArguments(t *testing.T) {
	long := upTo(300)
	wild := wildOutcomes()
	profiles := []api.Profile{of(math.MinInt, 255, row(math.MinInt, math.MinInt)), of(3, 2, make([]api.Row, 300)...), of(3, 1, row(1, long...)), of(3, 2, row(1, long...)), of(300, 3, row(1, long...)), of(3, 1), {}}
	for i, number := range wilds() {
		for j, other := range wilds() {
			x := call{c: contestOf(uint8(number), i%13, other), lot: []int{number, other, 1}, perm: []int{other, number}, o: wild[(i+j)%len(wild)], cands: number}
			x.other = x.o
			if i%3 == 0 {
				x.c, x.lot, x.perm = contestOf(uint8(j%19), 3, 1), []int{2, 0, 1}, []int{1, 2, 0}
			}
			if j%5 == 0 {
				x.lot = long[:max(0, min(number, 300))]
				x.perm = x.lot
				x.o = electing(number, other)
			}
			for _, x.p = range []api.Profile{profiles[(i+j*7)%len(profiles)], of(number, 2), of(3, 2, row(number, 0, other, 1)), of(3, 2), of(3, 1, row(1, 0), row(1, 1))} {
				for _, x.operation = range operations() {
					x.check(t)
				}
				x.other, x.cands = wild[(i*j)%len(wild)], other
			}
		}
	}
}

func TestR7GreatArguments(t *testing.T) {
	long := make([]int, 1<<18)
	limbs := slices.Repeat([]uint32{1}, 1<<18)
	name := strings.Repeat("a", 1<<18)
	for _, rule := range ruleNumbers() {
		kind := kindOf(rule)
		right := contestOf(rule, 3, 1)
		checkNoRun(t, contestOf(rule, 1<<12, 1), of(3, kind), upTo(3), api.ErrMany)
		checkNoRun(t, api.Contest{Name: name, Cands: []string{name}, Seats: 1, Rule: rule}, of(3, kind), upTo(3), api.ErrBad)
		checkNoRun(t, right, of(3, kind, row(1, long...)), upTo(3), api.ErrBad)
		checkNoRun(t, right, of(3, kind, make([]api.Row, 1<<18)...), upTo(3), api.ErrFull)
		checkNoRun(t, right, of(3, kind), long, api.ErrArg)
	}
	great := api.Outcome{Elected: long, Rounds: []api.Round{{Had: make([]api.Ratio, 1<<12), Lost: api.Ratio{Num: limbs, Den: limbs}, Elected: long, Out: long}}, Ties: []api.Tie{{Among: long}}}
	checkTwin(t, great)
	checkSame(t, great, great, true)
	checkNoRename(t, great, ints(0))
	great.Rounds[0].Had = great.Rounds[0].Had[:1]
	checkRename(t, great, ints(0), great)
	checkNoRename(t, great, long)
	checkSeats(t, great, 2, 1<<18, 0)
	many := api.Outcome{Rounds: make([]api.Round, 1<<14), Ties: make([]api.Tie, 1<<14)}
	checkTwin(t, many)
	checkNoRename(t, many, ints(0))
	many.Rounds = nil
	checkRename(t, many, ints(0), many)
}

func TestR7RandomCalls(t *testing.T) {
	random := rand.New(rand.NewSource(2252))
	wild := wildOutcomes()
	seen := map[api.Errno]int{}
	for range 3000 {
		e := randomElection(random, uint8(1+random.Intn(16)))
		x := call{c: e.c, p: e.p, lot: e.lot, perm: random.Perm(e.p.Cands), o: randomOutcome(random, e.p.Cands), cands: e.p.Cands}
		x.other = x.o
		switch random.Intn(6) {
		case 0:
			x.p = spoilt(random, x.p)
		case 1:
			x.lot, x.perm, x.cands = spoiltList(random, x.lot), spoiltList(random, x.perm), randomWild(random)
		case 2:
			x.c, x.o = spoiltContest(random, x.c), wild[random.Intn(len(wild))]
		case 3:
			x.c, x.p, x.lot, x.perm, x.o.Elected = spoiltContest(random, x.c), spoilt(random, x.p), spoiltList(random, x.lot), spoiltList(random, x.perm), spoiltList(random, x.o.Elected)
		case 4:
			x.p = randomProfile(random, e.p.Cands, uint8(1+random.Intn(3)))
		}
		for _, x.operation = range operations() {
			seen[x.check(t).e]++
		}
	}
	for _, e := range []api.Errno{api.OK, api.ErrArg, api.ErrMany, api.ErrBad, api.ErrFit} {
		if seen[e] < 20 {
			t.Errorf("%d calls have the error %d", seen[e], int(e))
		}
	}
}
