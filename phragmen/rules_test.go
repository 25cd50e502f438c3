package phragmen_test

import (
	"fmt"
	"math"
	"math/big"
	"math/rand"
	"runtime"
	"slices"
	"sync"
	"testing"
	"unsafe"

	"suffrage/api"
	"suffrage/phragmen"
	"suffrage/ratio"
)

// answer is all that a call returns, in one form for all calls.
type answer struct {
	o     api.Outcome
	loads []api.Ratio
	cost  api.Ratio
	ok    bool
	e     api.Errno
}

func (a answer) equal(b answer) bool {
	return same(a.o, b.o) && sameNumbers(a.loads, b.loads) && sameNumber(a.cost, b.cost) && a.ok == b.ok && a.e == b.e
}

// twin returns a copy of a, with memory of its own.
func (a answer) twin() answer {
	a.o, a.loads, a.cost = twin(a.o), twinNumbers(a.loads), twinNumber(a.cost)
	return a
}

// String shows an answer in a report.
func (a answer) String() string {
	return fmt.Sprintf("(%s, loads %s, cost %s, %v, error %d)", tell(a.o), textsOf(a.loads), textOf(a.cost), a.ok, int(a.e))
}

// operation is a function of the package, and the model's.
type operation struct {
	name      string
	do, model func(x call) answer
}

// call is a call with its arguments, of which each function takes its own.
type call struct {
	operation
	p            api.Profile
	seats        int
	lot, elected []int
	loads        []api.Ratio
	x            int
}

func (x call) String() string {
	some := func(l []int) []int { return l[:min(len(l), 50)] }
	return fmt.Sprintf("%s of %s, %d seats, lot %v, or %v, or %s, %d", x.name, show(x.p), x.seats, some(x.lot), some(x.elected), textsOf(x.loads), x.x)
}

// run returns the answer of the call.
func (x call) run() answer { return x.do(x) }

// check holds the answer against the model's, and returns it.
func (x call) check(t *testing.T) answer {
	t.Helper()
	a, want := x.run(), x.model(x)
	if !a.equal(want) {
		t.Errorf("%v: %v; want %v", x, a, want)
	}
	return a
}

func outcomeAnswer(o api.Outcome, e api.Errno) answer { return answer{o: o, e: e} }

func loadsAnswer(loads []api.Ratio, e api.Errno) answer { return answer{loads: loads, e: e} }

func costAnswer(cost api.Ratio, ok bool, e api.Errno) answer {
	return answer{cost: cost, ok: ok, e: e}
}

// operations returns the package's functions.
func operations() []operation {
	return []operation{
		{"Count", func(x call) answer { return outcomeAnswer(phragmen.Count(x.p, x.seats, x.lot)) }, func(x call) answer { return outcomeAnswer(modelCount(x.p, x.seats, x.lot)) }},
		{"Loads", func(x call) answer { return loadsAnswer(phragmen.Loads(x.p, x.elected)) }, func(x call) answer { return loadsAnswer(modelLoads(x.p, x.elected)) }},
		{"Cost", func(x call) answer { return costAnswer(phragmen.Cost(x.p, x.loads, x.x)) }, func(x call) answer { return costAnswer(modelCost(x.p, x.loads, x.x)) }},
	}
}

func roomyInts(l []int) []int { return append(slices.Clone(l), 1, 0, 7, -1, 1000)[:len(l)] }

func roomyLimbs(l []uint32) []uint32 { return append(slices.Clone(l), 1, 0, math.MaxUint32)[:len(l)] }

// roomy returns p in memory of its own, with rows behind its length, and numbers behind those of the marks.
func roomy(p api.Profile) api.Profile {
	var rows []api.Row
	for _, r := range slices.Concat(p.Rows, []api.Row{row(3), row(1, 0), row(-7, 5, 5)}) {
		rows = append(rows, api.Row{Marks: roomyInts(r.Marks), Many: r.Many})
	}
	p.Rows = rows[:len(p.Rows)]
	return p
}

// roomyNumbers is like roomy, for loads.
func roomyNumbers(l []api.Ratio) []api.Ratio {
	var numbers []api.Ratio
	for _, x := range slices.Concat(l, []api.Ratio{number("1/2"), {}, number("-5")}) {
		numbers = append(numbers, api.Ratio{Neg: x.Neg, Num: roomyLimbs(x.Num), Den: roomyLimbs(x.Den)})
	}
	return numbers[:len(l)]
}

// someProfiles are valid ones, mostly of marks, and others that are not.
func someProfiles() []api.Profile {
	random := rand.New(rand.NewSource(2151))
	l := []api.Profile{theExample(), fullProfile(2), primeProfile(), fullProfile(1), fullProfile(3), of(3, 1, row(1, 2, 0)), of(3, 3), of(3, 0), of(3, 4), {}}
	for cands := 1; cands <= 10; cands++ {
		l = append(l, of(cands, 2), of(cands, 2, row(3)), of(cands, 2, row(5, upTo(cands)...)), randomProfile(random, cands), randomProfile(random, cands), levelProfile(random, cands), levelProfile(random, cands))
	}
	for _, e := range []api.Errno{api.ErrFull, api.ErrBad, api.ErrMany} {
		l = append(l, wrongProfiles()[e][:3]...)
	}
	return l
}

// calls returns calls of each function, right and wrong, with lists that have room behind them.
func calls() []call {
	random := rand.New(rand.NewSource(2152))
	var all []call
	profiles := someProfiles()
	for i := range 3 * len(profiles) {
		p := profiles[i%len(profiles)]
		cands := min(max(p.Cands, 1), 10)
		elected := random.Perm(cands)[:random.Intn(cands+1)]
		loads, _ := modelLoads(p, elected)
		if i%4 == 1 && len(loads) > 0 {
			loads[random.Intn(len(loads))] = randomLoad(random)
		}
		for _, o := range operations() {
			x := call{operation: o, p: roomy(p), seats: 1 + random.Intn(cands), lot: roomyInts(random.Perm(cands)), elected: roomyInts(elected), loads: roomyNumbers(loads), x: random.Intn(cands)}
			switch i % 7 {
			case 4:
				x.seats, x.elected, x.x = cands+1, roomyInts(append(slices.Clone(elected), -1)), -1
			case 5:
				x.lot, x.elected, x.loads = roomyInts(spoiltList(random, x.lot)), roomyInts(spoiltList(random, elected)), roomyNumbers(append(loads, number("1")))
			case 6:
				x.seats, x.elected, x.x = 0, roomyInts([]int{0, 0}), cands
			}
			all = append(all, x)
		}
	}
	return all
}

func TestCallsHaveTheModelsAnswers(t *testing.T) {
	type kind struct {
		name string
		ok   bool
		e    api.Errno
	}
	seen := map[kind]int{}
	for _, x := range calls() {
		a := x.check(t)
		seen[kind{x.name, a.ok, a.e}]++
	}
	for _, k := range []kind{{"Count", false, 0}, {"Count", false, api.ErrArg}, {"Count", false, api.ErrBad}, {"Loads", false, 0}, {"Loads", false, api.ErrArg}, {"Loads", false, api.ErrBad}, {"Cost", true, 0}, {"Cost", false, 0}, {"Cost", false, api.ErrArg}, {"Cost", false, api.ErrBad}} {
		if seen[k] < 20 {
			t.Errorf("the calls have %d answers like %v", seen[k], k)
		}
	}
}

// R1

func TestR1ErrorsComeInOrder(t *testing.T) {
	right, lot := of(2, 2, row(1, 0)), []int{0, 1}
	great := []api.Ratio{whole(power(3072, -1))}
	checkNoCost(t, right, great, 0, api.ErrGreat)
	for _, seats := range []int{math.MinInt, -1, 0, 3, math.MaxInt} {
		checkNoCount(t, right, seats, lot, api.ErrArg)
		checkNoCount(t, right, seats, nil, api.ErrArg)
	}
	for _, x := range []int{math.MinInt, -1, 2, math.MaxInt} {
		checkNoCost(t, right, great, x, api.ErrArg)
		checkNoCost(t, right, make([]api.Ratio, 1), x, api.ErrArg)
		checkNoCost(t, right, nil, x, api.ErrArg)
	}
	checkNoCost(t, right, append(great, great...), 0, api.ErrArg)
	checkNoCost(t, right, make([]api.Ratio, 2), 0, api.ErrArg)
	checkNoCost(t, right, append(great, great...), 1, api.ErrArg) // though 1 has no support
	for _, p := range badProfiles() {
		for _, l := range wrongLots(2) {
			checkNoCount(t, p, 1, l, api.ErrBad)
			checkNoCount(t, p, -1, l, api.ErrBad)
			checkNoCount(t, right, 1, l, api.ErrArg)
			checkNoCount(t, right, 3, l, api.ErrArg)
		}
		for _, l := range wrongElected(2) {
			checkNoLoads(t, p, l, api.ErrBad)
			checkNoLoads(t, right, l, api.ErrArg)
		}
		for _, x := range []int{-1, 0, 99} {
			checkNoCost(t, p, great, x, api.ErrBad)
			checkNoCost(t, p, make([]api.Ratio, 3), x, api.ErrBad)
		}
	}
}

// The numbers of the errors are those of the document.
func TestR1ErrorNumbers(t *testing.T) {
	p := of(1, 2, row(2, 0))
	_, countBad := phragmen.Count(of(0, 2), 0, nil)
	_, countArg := phragmen.Count(p, 0, []int{0})
	_, countOK := phragmen.Count(p, 1, []int{0})
	_, loadsBad := phragmen.Loads(of(1, 1), nil)
	_, loadsArg := phragmen.Loads(p, []int{1})
	_, loadsOK := phragmen.Loads(p, []int{0})
	_, _, costBad := phragmen.Cost(of(1, 3), nil, 0)
	_, _, costArg := phragmen.Cost(p, nil, 0)
	_, _, costLoad := phragmen.Cost(p, make([]api.Ratio, 1), 0)
	_, _, costGreat := phragmen.Cost(p, []api.Ratio{whole(power(3072, -1))}, 0)
	_, _, costOK := phragmen.Cost(p, numbers("0"), 0)
	if l := []int{int(countBad), int(countArg), int(countOK), int(loadsBad), int(loadsArg), int(loadsOK), int(costBad), int(costArg), int(costLoad), int(costGreat), int(costOK)}; !slices.Equal(l, []int{8, 2, 0, 8, 2, 0, 8, 2, 8, 30, 0}) {
		t.Errorf("the errors are %v", l)
	}
}

func TestR1NothingBesideAnError(t *testing.T) {
	failed, without := 0, 0
	for _, x := range calls() {
		a := x.run()
		if a.e == api.OK && (x.name != "Cost" || a.ok) {
			continue
		}
		if a.e == api.OK {
			without++
		} else {
			failed++
		}
		if a.o.Elected != nil || a.o.Rounds != nil || a.o.Ties != nil || a.loads != nil || a.ok || a.cost.Neg || a.cost.Num != nil || a.cost.Den != nil {
			t.Errorf("%v: %v", x, a)
		}
	}
	if failed < 200 || without < 20 {
		t.Errorf("%d calls fail, and %d find no support", failed, without)
	}
}

// R2

// memory returns a text of all that the arguments hold, up to the capacities.
func (x call) memory() string {
	s := fmt.Sprint(x.p.Cands, x.p.Kind, len(x.p.Rows), x.seats, len(x.lot), x.lot[:cap(x.lot)], len(x.elected), x.elected[:cap(x.elected)], x.x, len(x.loads))
	for _, r := range x.p.Rows[:cap(x.p.Rows)] {
		s += fmt.Sprint(len(r.Marks), r.Marks[:cap(r.Marks)], r.Many)
	}
	for _, l := range x.loads[:cap(x.loads)] {
		s += fmt.Sprint(l.Neg, len(l.Num), l.Num[:cap(l.Num)], len(l.Den), l.Den[:cap(l.Den)])
	}
	return s
}

func scribbleInts(l []int) {
	for i := range l[:cap(l)] {
		l[:cap(l)][i] ^= 0x5a5
	}
}

func scribbleNumbers(l ...api.Ratio) {
	for i, x := range l {
		for _, limbs := range [][]uint32{x.Num[:cap(x.Num)], x.Den[:cap(x.Den)]} {
			for j := range limbs {
				limbs[j] ^= 0x5a5
			}
		}
		l[i].Neg = !x.Neg
	}
}

// scribbleArguments overwrites the memory of all arguments.
func (x call) scribbleArguments() {
	scribbleInts(x.lot)
	scribbleInts(x.elected)
	scribbleNumbers(x.loads[:cap(x.loads)]...)
	for i, r := range x.p.Rows[:cap(x.p.Rows)] {
		scribbleInts(r.Marks)
		x.p.Rows[:cap(x.p.Rows)][i] = row(r.Many^0x5a5, 99)
	}
}

// scribble overwrites the memory of an answer, up to the capacities.
func (a answer) scribble() {
	scribbleNumbers(a.loads[:cap(a.loads)]...)
	scribbleNumbers(a.cost)
	scribbleInts(a.o.Elected)
	for _, r := range a.o.Rounds[:cap(a.o.Rounds)] {
		scribbleInts(r.Elected)
		scribbleInts(r.Out)
		scribbleNumbers(r.Lost)
		scribbleNumbers(r.Had[:cap(r.Had)]...)
	}
	for i, x := range a.o.Ties[:cap(a.o.Ties)] {
		scribbleInts(x.Among)
		a.o.Ties[:cap(a.o.Ties)][i].Chosen ^= 0x5a5
	}
}

func TestR2ArgumentsStay(t *testing.T) {
	for _, x := range calls() {
		before := x.memory()
		x.run()
		if x.memory() != before {
			t.Errorf("%v: the memory of an argument changes", x)
		}
	}
}

func TestR2AnswersShareNothingWithArguments(t *testing.T) {
	decisions, rounds, loads, costs := 0, 0, 0, 0
	for _, x := range calls() {
		before := x.memory()
		a := x.run()
		want := a.twin()
		a.scribble()
		if x.memory() != before {
			t.Errorf("%v: an argument changes with the answer", x)
		}
		a = x.run()
		x.scribbleArguments()
		if !a.equal(want) {
			t.Errorf("the answer of %s changes with the arguments: %v; want %v", x.name, a, want)
		}
		decisions += len(a.o.Ties)
		rounds += len(a.o.Rounds)
		loads += len(a.loads)
		costs += len(a.cost.Den)
	}
	if decisions < 100 || rounds < 300 || loads < 500 || costs < 50 {
		t.Errorf("the answers have %d ties, %d rounds, %d loads, and %d limbs of costs", decisions, rounds, loads, costs)
	}
}

// A cost that is nothing but 1 and a load has memory of its own.
func TestR2TheCostIsNotTheLoad(t *testing.T) {
	p := of(1, 2, row(1, 0))
	for _, text := range []string{"0", "-1", "1", "1/2", "-1/2", "340282366920938463463374607431768211457/2"} {
		loads := numbers(text)
		cost, _, _ := phragmen.Cost(p, loads, 0)
		scribbleNumbers(cost)
		if !sameNumbers(loads, numbers(text)) {
			t.Errorf("the load %s becomes %s", text, textsOf(loads))
		}
	}
}

// span is a piece of memory.
type span struct {
	name       string
	start, end uintptr
}

func spanOf[T any](name string, l []T) span {
	var one T
	start := uintptr(unsafe.Pointer(unsafe.SliceData(l)))
	return span{name, start, start + uintptr(cap(l))*unsafe.Sizeof(one)}
}

// spans returns the memory of each list of an answer, up to its capacity.
func (a answer) spans() []span {
	l := []span{spanOf("the loads", a.loads), spanOf("Elected", a.o.Elected), spanOf("Rounds", a.o.Rounds), spanOf("Ties", a.o.Ties)}
	numbers := append(slices.Clone(a.loads), a.cost)
	for _, r := range a.o.Rounds {
		l = append(l, spanOf("Elected of a round", r.Elected), spanOf("Out", r.Out), spanOf("Had", r.Had))
		numbers = append(append(numbers, r.Had...), r.Lost)
	}
	for _, n := range numbers {
		l = append(l, spanOf("Num", n.Num), spanOf("Den", n.Den))
	}
	for _, x := range a.o.Ties {
		l = append(l, spanOf("Among", x.Among))
	}
	return slices.DeleteFunc(l, func(s span) bool { return s.start == s.end })
}

// The lists of an answer, and of all answers, have each its own memory; so have the loads of ballots that elected the same candidate.
func TestR2PartsOfAnswersShareNothing(t *testing.T) {
	var all []answer
	var memory []span
	for _, x := range calls() {
		a := x.run()
		all = append(all, a)
		memory = append(memory, a.spans()...)
	}
	slices.SortFunc(memory, func(s, o span) int { return int(s.start) - int(o.start) })
	for i := 1; i < len(memory); i++ {
		if memory[i].start < memory[i-1].end {
			t.Errorf("%s and %s share memory", memory[i-1].name, memory[i].name)
		}
	}
	if len(memory) < 5000 {
		t.Errorf("the answers have %d lists", len(memory))
	}
	runtime.KeepAlive(all)
}

// To append to a list of an answer changes no other one of it.
func TestR2AppendingToAnAnswer(t *testing.T) {
	for _, x := range calls() {
		a := x.run()
		want := a.twin()
		_, _, _, _ = append(a.loads, number("77")), append(a.o.Elected, 77), append(a.o.Ties, tie(77, 77)), append(a.o.Rounds, api.Round{Out: []int{77}})
		numbers := append(slices.Clone(a.loads), a.cost)
		for _, r := range a.o.Rounds {
			_, _, _ = append(r.Elected, 77), append(r.Out, 77), append(r.Had, number("77"))
			numbers = append(append(numbers, r.Had...), r.Lost)
		}
		for _, n := range numbers {
			_, _ = append(n.Num, 77), append(n.Den, 77)
		}
		for _, d := range a.o.Ties {
			_ = append(d.Among, 77)
		}
		if !a.equal(want) {
			t.Errorf("%v: %v; want %v", x, a, want)
		}
	}
}

// A second answer depends neither on the first, nor on what became of it, nor on calls between.
func TestR2NothingIsKept(t *testing.T) {
	between := calls()
	for i, x := range calls() {
		first := x.run()
		want := first.twin()
		first.scribble()
		for j := i % 97; j < len(between); j += 97 {
			between[j].run()
		}
		if again := x.run(); !again.equal(want) {
			t.Errorf("%v: the second answer is %v; want %v", x, again, want)
		}
	}
}

// Calls at the same time do not disturb each other, also with the same arguments.
func TestR2CallsAtTheSameTime(t *testing.T) {
	all := calls()
	var joined sync.WaitGroup
	for range 4 {
		joined.Go(func() {
			for _, x := range all {
				if a, want := x.run(), x.model(x); !a.equal(want) {
					t.Errorf("%v: %v; want %v", x, a, want)
				}
			}
		})
	}
	joined.Wait()
}

// The rows may share their memory with each other, with the lot and with the elected; and the loads with each other.
func TestR2OneMemory(t *testing.T) {
	l := []int{0, 1, 2, 1}
	p := of(3, 2, api.Row{Marks: l[:0], Many: 1}, api.Row{Marks: l[:1], Many: 2}, api.Row{Marks: l[:2], Many: 3}, api.Row{Marks: l[1:2], Many: 2}, api.Row{Marks: l[1:3], Many: 1}, api.Row{Marks: l[2:3], Many: 2})
	checkCount(t, p, 2, l[:3], outcome(1, []round{{"1/5 1/6 1/3", 1}, {"3/10 0 7/18", 0}}))
	checkLoads(t, p, l[:3], "0 1/5 4/15 4/15 19/45 19/45")
	checkNoCount(t, p, 1, l, api.ErrArg)
	checkNoLoads(t, p, l, api.ErrArg)
	limbs := []uint32{1, 2, 1}
	load := api.Ratio{Num: limbs[:1], Den: limbs[1:2]}
	checkCost(t, p, []api.Ratio{load, load, load, {Num: limbs[1:2], Den: limbs[:1]}, load, {Num: limbs[2:], Den: limbs[2:]}}, 1, "7/6")
	if !slices.Equal(l, []int{0, 1, 2, 1}) || !slices.Equal(limbs, []uint32{1, 2, 1}) {
		t.Errorf("the arguments become %v and %v", l, limbs)
	}
}

// R3

func TestR3NilAndEmptyAreEqual(t *testing.T) {
	for _, empty := range [][]int{nil, {}, upTo(3)[:0], make([]int, 0, 20)} {
		for _, cands := range []int{1, 3} {
			checkNoCount(t, of(cands, 2), 1, empty, api.ErrArg)
			checkLoads(t, of(cands, 2, row(2, 0)), empty, "0")
			checkNoLoads(t, of(cands, 1), empty, api.ErrBad)
		}
		checkNoCount(t, of(0, 2), 1, empty, api.ErrBad)
		checkNoCount(t, of(0, 2), 0, empty, api.ErrBad)
		checkNoLoads(t, of(0, 2), empty, api.ErrBad)
		blank := api.Row{Marks: empty, Many: 3}
		checkNoCount(t, of(2, 2, blank, blank), 1, []int{0, 1}, api.ErrBad)
		checkCount(t, of(2, 2, blank, row(2, 1)), 2, []int{0, 1}, outcome(3, []round{{"0 1/2", 1}, {"0 0", 0}}))
		checkLoads(t, of(2, 2, blank, row(2, 1)), []int{0, 1}, "0 1/2")
		checkCost(t, of(2, 2, blank, row(2, 1)), numbers("5 1"), 1, "3/2")
	}
	for _, rows := range [][]api.Row{nil, {}, make([]api.Row, 0, 5), make([]api.Row, 70)[:0]} {
		checkCount(t, of(2, 2, rows...), 2, []int{1, 0}, outcome(0, []round{{"0 0", 1}, {"0 0", 0}}, tie(1, 0, 1)))
		for _, loads := range [][]api.Ratio{nil, {}, make([]api.Ratio, 0, 5), make([]api.Ratio, 70)[:0]} {
			checkNoCost(t, of(2, 2, rows...), loads, 1, api.OK)
			checkNoCost(t, of(2, 2, rows...), loads, 2, api.ErrArg)
		}
	}
	// The limbs of 0, and of no number.
	for _, limbs := range [][]uint32{nil, {}, make([]uint32, 0, 9), make([]uint32, 9)[:0]} {
		checkCost(t, of(1, 2, row(2, 0)), []api.Ratio{{Num: limbs, Den: []uint32{1}}}, 0, "1/2")
		checkNoCost(t, of(1, 2, row(2, 0)), []api.Ratio{{Num: []uint32{1}, Den: limbs}}, 0, api.ErrBad)
		checkNoCost(t, of(1, 2, row(2, 0)), []api.Ratio{{Num: limbs, Den: limbs}}, 0, api.ErrBad)
	}
}

// Nobody is out in any round.
func TestR3WhatTheChapterDoesNotMention(t *testing.T) {
	rounds := 0
	for _, x := range calls() {
		for _, r := range x.run().o.Rounds {
			rounds++
			if len(r.Out) > 0 || len(r.Elected) != 1 {
				t.Errorf("%v: %v", x, r)
			}
		}
	}
	if rounds < 300 {
		t.Errorf("%d rounds", rounds)
	}
}

// R4 bears on no call of the package by itself; it does on the text of the numbers: 0 without a sign, in lowest terms, and denominators only where they are not 1.
func TestR4NumbersAsText(t *testing.T) {
	p := of(4, 2, row(12), row(2, 0), row(6, 0, 1), row(1, 3))
	l := loadsOf(t, p, []int{0, 1, 2, 3})
	for _, r := range count(t, p, 4, upTo(4)).Rounds {
		l = append(append(l, r.Had...), r.Lost)
	}
	for _, load := range []string{"-1/6", "0", "1", "-1/2", "5/6"} {
		cost, _, _ := phragmen.Cost(p, numbers("0 0 "+load+" 0"), 1)
		l = append(l, cost)
	}
	var texts []string
	for _, x := range l {
		s, e := ratio.Text(x)
		if e != api.OK {
			t.Errorf("%v has no text", x)
		}
		texts = append(texts, s)
	}
	want := []string{"0", "1/8", "7/24", "1", "1/8", "1/6", "0", "1", "12", "0", "7/24", "0", "1", "12", "0", "0", "0", "1", "12", "0", "0", "0", "0", "12", "0", "1/6", "7/6", "-1/3", "1"}
	if !slices.Equal(texts, want) {
		t.Errorf("the numbers are %q; want %q", texts, want)
	}
}

// R5

// The lot is the order among equals; Among and Had are in the order of the candidates, the loads in that of the rows; always, and not sometimes as the costs are gone through.
func TestR5Order(t *testing.T) {
	level := marking(5, row(4, 0), row(4, 1), row(4, 2), row(4, 3), row(4, 4))
	for _, lot := range lots(5) {
		o, _ := checkModelCount(t, level, 5, lot)
		if !slices.Equal(o.Elected, lot) || !sameTies(o.Ties, byLot(lot)) {
			t.Errorf("lot %v: %s", lot, tell(o))
		}
		for at, r := range o.Rounds {
			want := slices.Repeat(numbers("1/4"), 5)
			for _, c := range lot[:at] {
				want[c] = number("0")
			}
			if !sameNumbers(r.Had, want) {
				t.Errorf("lot %v: %s", lot, tell(o))
			}
		}
	}
	for range 300 {
		p := marking(10, row(3, upTo(10)...), row(5, 2, 4, 9), row(1, 7))
		checkCount(t, p, 3, downFrom(10), outcome(0, []round{
			{"1/3 1/3 1/8 1/3 1/8 1/3 1/3 1/4 1/3 1/8", 9},
			{"11/24 11/24 1/4 11/24 1/4 11/24 11/24 11/32 11/24 0", 4},
			{"7/12 7/12 3/8 7/12 0 7/12 7/12 7/16 7/12 0", 2},
		}, tie(9, 2, 4, 9), tie(4, 2, 4)))
		checkLoads(t, p, []int{7, 9}, "7/32 7/32 1/4")
	}
}

// R6

// Numbers are taken as they are, and not in fewer bits, nor added or multiplied until they are less again.
func TestR6NothingOverflows(t *testing.T) {
	p := of(3, 2, row(1, 0, 1, 2))
	for _, size := range []int{8, 16, 20, 31, 32, 33, 62} {
		for more := range 4 {
			wide, low := 1<<size+more, more-1<<size
			for _, far := range []int{wide, low} {
				checkNoCount(t, p, far, upTo(3), api.ErrArg)
				checkNoCount(t, p, 1, []int{0, 1, far}, api.ErrArg)
				checkNoCount(t, of(far, 2), 1, upTo(3), api.ErrBad)
				checkNoLoads(t, p, []int{far}, api.ErrArg)
				checkNoLoads(t, p, []int{0, far, 1}, api.ErrArg)
				checkNoLoads(t, of(far, 2), nil, api.ErrBad)
				checkNoCost(t, p, numbers("0"), far, api.ErrArg)
				checkNoCost(t, of(far, 2), nil, 0, api.ErrBad)
			}
			if wide > million {
				checkNoCount(t, of(1, 2, row(wide, 0)), 1, []int{0}, api.ErrBad)
			}
		}
	}
	// Sums and products that fill words, and just not.
	for _, bits := range []uint{31, 32, 52, 63, 64, 128} {
		for more := int64(-2); more <= 2; more++ {
			load := power(bits, more)
			for _, x := range []api.Ratio{whole(load), whole(minus(load)), over(big.NewInt(1), load), over(big.NewInt(-7), load)} {
				for _, many := range []int{1, 2, 65536, million} {
					checkModelCost(t, of(1, 2, row(many, 0)), []api.Ratio{x}, 0)
				}
			}
		}
	}
}

// R7

// A panic or an endless call would fail the test by itself.
func TestR7AnyArguments(t *testing.T) {
	random := rand.New(rand.NewSource(2153))
	long := upTo(300)
	profiles := append(someProfiles(), of(math.MinInt, 255, row(math.MinInt, math.MinInt)), of(3, 2, make([]api.Row, 300)...), of(3, 1, row(1, long...)), of(3, 2, row(1, long...)), of(300, 3, row(1, long...)))
	for i, wild := range wilds() {
		for j, other := range wilds() {
			x := call{seats: other, lot: []int{wild, other, 1}, elected: []int{other, wild}, x: wild}
			if i%3 == 0 {
				x.lot, x.elected = []int{2, 0, 1}, []int{1, 2}
			}
			if j%5 == 0 {
				x.lot = long[:max(0, min(wild, 300))]
				x.elected = x.lot
			}
			for _, x.p = range []api.Profile{profiles[(i+j*7)%len(profiles)], of(wild, 2), of(3, 2, row(wild, 0, other, 1)), of(3, 2), of(3, 2, row(1, 0), row(1, 1))} {
				for range len(x.p.Rows) + j%2 {
					x.loads = append(x.loads, randomLoad(random))
				}
				for _, x.operation = range operations() {
					x.check(t)
				}
				x.seats, x.x, x.loads = 1+i%3, j%3, nil
			}
		}
	}
}

func TestR7GreatArguments(t *testing.T) {
	long := upTo(1 << 18)
	limbs := slices.Repeat([]uint32{1}, 1<<18)
	for _, p := range []api.Profile{of(3, 2, row(1, long...)), of(3, 2, make([]api.Row, 1<<18)...), of(1<<18, 2, row(1, long...)), of(10, 2, slices.Repeat([]api.Row{row(1, long...)}, 64)...)} {
		checkNoCount(t, p, 1, upTo(3), api.ErrBad)
		checkNoCount(t, p, 1<<18, long, api.ErrBad)
		checkNoLoads(t, p, nil, api.ErrBad)
		checkNoLoads(t, p, long, api.ErrBad)
		checkNoCost(t, p, make([]api.Ratio, len(p.Rows)), 0, api.ErrBad)
	}
	p := of(3, 2, row(1, 0))
	checkNoCount(t, p, 1, long, api.ErrArg)
	checkNoLoads(t, p, long, api.ErrArg)
	checkNoCost(t, p, make([]api.Ratio, 1<<18), 0, api.ErrArg)
	for _, load := range []api.Ratio{{Num: limbs, Den: []uint32{1}}, {Num: []uint32{1}, Den: limbs}, {Num: limbs, Den: limbs}, {Num: make([]uint32, 1<<18), Den: make([]uint32, 1<<18)}} {
		checkNoCost(t, p, []api.Ratio{load}, 0, api.ErrBad)
		checkNoCost(t, p, []api.Ratio{load}, 1, api.OK)
	}
}

func TestR7RandomCalls(t *testing.T) {
	random := rand.New(rand.NewSource(2154))
	seen := map[api.Errno]int{}
	for range 2000 {
		p := anyProfile(random)
		x := call{p: p, seats: 1 + random.Intn(p.Cands), lot: random.Perm(p.Cands), x: random.Intn(p.Cands)}
		x.elected = random.Perm(p.Cands)[:random.Intn(p.Cands+1)]
		for range p.Rows {
			x.loads = append(x.loads, randomLoad(random))
		}
		switch random.Intn(6) {
		case 0:
			x.p = spoilt(random, x.p)
		case 1:
			x.lot, x.elected, x.x = spoiltList(random, x.lot), spoiltList(random, x.elected), randomWild(random)
		case 2:
			x.seats, x.loads = randomWild(random), append(x.loads, number("1"))
		case 3:
			x.p, x.seats, x.lot, x.elected, x.x = spoilt(random, x.p), randomWild(random), spoiltList(random, x.lot), spoiltList(random, x.elected), randomWild(random)
		}
		for _, x.operation = range operations() {
			seen[x.check(t).e]++
		}
	}
	for _, e := range []api.Errno{api.OK, api.ErrArg, api.ErrBad, api.ErrGreat} {
		if seen[e] < 50 {
			t.Errorf("the errors are %v", seen)
		}
	}
}
