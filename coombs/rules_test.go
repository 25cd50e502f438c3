package coombs_test

import (
	"fmt"
	"math"
	"math/rand"
	"runtime"
	"slices"
	"sync"
	"testing"
	"unsafe"

	"suffrage/api"
	"suffrage/coombs"
	"suffrage/profile"
	"suffrage/ratio"
)

// answer is all that a call returns, in one form for both calls.
type answer struct {
	against []int
	o       api.Outcome
	e       api.Errno
}

func (a answer) equal(b answer) bool {
	return slices.Equal(a.against, b.against) && same(a.o, b.o) && a.e == b.e
}

// twin returns a copy of a, with memory of its own.
func (a answer) twin() answer {
	a.against, a.o = slices.Clone(a.against), twin(a.o)
	return a
}

// operation is a function of the package, and the model's.
type operation struct {
	name      string
	do, model func(x call) answer
}

// call is a call with its arguments, of which each function takes its own.
type call struct {
	operation
	p     api.Profile
	left  []bool
	seats int
	lot   []int
}

func (x call) String() string {
	return fmt.Sprintf("%s of %s, left %v, or %d seats, lot %v", x.name, show(x.p), x.left[:min(len(x.left), 50)], x.seats, x.lot[:min(len(x.lot), 50)])
}

// run returns the answer of the call.
func (x call) run() answer { return x.do(x) }

func lastsAnswer(against []int, e api.Errno) answer { return answer{against: against, e: e} }

func outcomeAnswer(o api.Outcome, e api.Errno) answer { return answer{o: o, e: e} }

// operations returns both of the package's functions.
func operations() []operation {
	return []operation{
		{"Count", func(x call) answer { return outcomeAnswer(coombs.Count(x.p, x.seats, x.lot)) }, func(x call) answer { return outcomeAnswer(modelCount(x.p, x.seats, x.lot)) }},
		{"Lasts", func(x call) answer { return lastsAnswer(coombs.Lasts(x.p, x.left)) }, func(x call) answer { return lastsAnswer(modelLasts(x.p, x.left)) }},
	}
}

func roomyInts(l []int) []int { return append(slices.Clone(l), 1, 0, 7, -1, 1000)[:len(l)] }

func roomyBools(l []bool) []bool {
	return append(slices.Clone(l), true, false, true, true, false, true, true, true, true, true)[:len(l)]
}

// roomy returns p in memory of its own, with rows behind its length, and numbers behind those of the marks.
func roomy(p api.Profile) api.Profile {
	var rows []api.Row
	for _, r := range slices.Concat(p.Rows, []api.Row{row(3), row(1, 0), row(-7, 5, 5)}) {
		rows = append(rows, api.Row{Marks: roomyInts(r.Marks), Many: r.Many})
	}
	p.Rows = rows[:len(p.Rows)]
	return p
}

// someProfiles are valid ones, mostly of rankings, and others that are not.
func someProfiles() []api.Profile {
	random := rand.New(rand.NewSource(541))
	l := []api.Profile{theExample(), tennessee(), burlington(), manyRankings(), fullProfile(1), fullProfile(2), fullProfile(3), of(3, 2, row(1, 0, 2)), of(3, 3), of(3, 0), of(3, 4)}
	for cands := 1; cands <= 10; cands++ {
		p, q := randomProfile(random, cands, 1), randomProfile(random, cands, 1)
		l = append(l, ranks(cands), p, evened(random, p), q, evened(random, q), leaning(random), ranks(cands, row(4, upTo(cands)...)))
	}
	for _, e := range []api.Errno{api.ErrFull, api.ErrBad, api.ErrMany} {
		l = append(l, wrongProfiles()[e][:3]...)
	}
	return l
}

// calls returns calls of each function, right and wrong, with lists that have room behind them.
func calls() []call {
	random := rand.New(rand.NewSource(542))
	var all []call
	profiles := someProfiles()
	for i := range 3 * len(profiles) {
		p := profiles[i%len(profiles)]
		lot := random.Perm(min(max(p.Cands, 1), 10))
		left := randomLeft(random, len(lot))
		if random.Intn(6) == 0 {
			lot = spoiltLot(random, lot)
		}
		for _, o := range operations() {
			all = append(all, call{o, roomy(p), roomyBools(left), []int{1, 1, 1, 1, 2, 0, -1}[i%7], roomyInts(lot)})
		}
	}
	return all
}

func TestCallsHaveTheModelsAnswers(t *testing.T) {
	type kind struct {
		name string
		e    api.Errno
	}
	seen := map[kind]int{}
	for _, x := range calls() {
		a, want := x.run(), x.model(x)
		if !a.equal(want) {
			t.Errorf("%v: %v; want %v", x, a, want)
		}
		seen[kind{x.name, a.e}]++
	}
	for _, k := range []kind{{"Count", 0}, {"Count", api.ErrArg}, {"Count", api.ErrBad}, {"Lasts", 0}, {"Lasts", api.ErrBad}} {
		if seen[k] < 20 {
			t.Errorf("the calls have %d answers like %v", seen[k], k)
		}
	}
	if len(seen) != 5 {
		t.Errorf("the calls have answers like these: %v", seen)
	}
}

// R1

func TestR1ErrorsComeInOrder(t *testing.T) {
	var wrong []api.Profile
	for _, l := range wrongProfiles() {
		wrong = append(wrong, l...)
	}
	right, lot := ranks(2), []int{0, 1}
	for _, p := range append(wrong, of(2, 2), of(2, 3)) {
		if p.Kind == 1 && profile.Check(p) == api.OK {
			t.Fatal("not wrong")
		}
		checkError(t, p, 1, lot, api.ErrBad)
		for _, seats := range []int{-1, 0, 2, 11, math.MinInt, math.MaxInt} {
			checkError(t, p, seats, lot, api.ErrBad)
			checkError(t, p, seats, nil, api.ErrBad)
			checkError(t, right, seats, lot, api.ErrArg)
			checkError(t, right, seats, nil, api.ErrArg)
		}
		for _, l := range wrongLots(2) {
			checkError(t, p, 1, l, api.ErrBad)
			checkError(t, right, 1, l, api.ErrArg)
		}
	}
}

// The numbers of the errors are those of the document.
func TestR1ErrorNumbers(t *testing.T) {
	_, bad := coombs.Count(ranks(0), 0, nil)
	_, arg := coombs.Count(ranks(1), 0, []int{0})
	_, ok := coombs.Count(ranks(1), 1, []int{0})
	_, none := coombs.Lasts(of(1, 2), nil)
	_, fine := coombs.Lasts(ranks(1), nil)
	if numbers := []int{int(bad), int(arg), int(ok), int(none), int(fine)}; !slices.Equal(numbers, []int{8, 2, 0, 8, 0}) {
		t.Errorf("the errors are %v", numbers)
	}
}

func TestR1NothingBesideAnError(t *testing.T) {
	failed := 0
	for _, x := range calls() {
		a := x.run()
		if a.e == api.OK {
			continue
		}
		failed++
		if a.against != nil || a.o.Elected != nil || a.o.Rounds != nil || a.o.Ties != nil {
			t.Errorf("%v: %v beside error %d", x, a, int(a.e))
		}
	}
	if failed < 100 {
		t.Errorf("%d calls fail", failed)
	}
}

// R2

// memory returns a text of all that the arguments hold, up to the capacities.
func (x call) memory() string {
	s := fmt.Sprint(x.p.Cands, x.p.Kind, len(x.p.Rows), len(x.left), x.left[:cap(x.left)], x.seats, len(x.lot), x.lot[:cap(x.lot)])
	for _, r := range x.p.Rows[:cap(x.p.Rows)] {
		s += fmt.Sprint(len(r.Marks), r.Marks[:cap(r.Marks)], r.Many)
	}
	return s
}

func scribbleInts(l []int) {
	for i := range l[:cap(l)] {
		l[:cap(l)][i] ^= 0x5a5
	}
}

// scribbleArguments overwrites the memory of all arguments.
func (x call) scribbleArguments() {
	for i := range x.left[:cap(x.left)] {
		x.left[:cap(x.left)][i] = !x.left[:cap(x.left)][i]
	}
	scribbleInts(x.lot)
	for i, r := range x.p.Rows[:cap(x.p.Rows)] {
		scribbleInts(r.Marks)
		x.p.Rows[:cap(x.p.Rows)][i] = row(r.Many^0x5a5, 99)
	}
}

func scribbleNumber(x *api.Ratio) {
	for _, limbs := range [][]uint32{x.Num[:cap(x.Num)], x.Den[:cap(x.Den)]} {
		for i := range limbs {
			limbs[i] ^= 0x5a5
		}
	}
	x.Neg = !x.Neg
}

// scribble overwrites the memory of an answer, up to the capacities.
func (a answer) scribble() {
	scribbleInts(a.against)
	o := a.o
	scribbleInts(o.Elected)
	for i := range o.Rounds[:cap(o.Rounds)] {
		r := &o.Rounds[:cap(o.Rounds)][i]
		scribbleInts(r.Elected)
		scribbleInts(r.Out)
		scribbleNumber(&r.Lost)
		for j := range r.Had[:cap(r.Had)] {
			scribbleNumber(&r.Had[:cap(r.Had)][j])
		}
	}
	for i := range o.Ties[:cap(o.Ties)] {
		scribbleInts(o.Ties[:cap(o.Ties)][i].Among)
		o.Ties[:cap(o.Ties)][i].Chosen ^= 0x5a5
	}
}

func TestR2ArgumentsStay(t *testing.T) {
	for _, x := range calls() {
		before := x.memory()
		x.run()
		if x.memory() != before {
			t.Errorf("%v: the memory of an argument changes", x)
		}
	}
}

func TestR2AnswersShareNothingWithArguments(t *testing.T) {
	ties, rounds, lasts := 0, 0, 0
	for _, x := range calls() {
		before := x.memory()
		a := x.run()
		want := a.twin()
		a.scribble()
		if x.memory() != before {
			t.Errorf("%v: an argument changes with the answer", x)
		}
		a = x.run()
		x.scribbleArguments()
		if !a.equal(want) {
			t.Errorf("the answer of %s changes with the arguments: %v; want %v", x.name, a, want)
		}
		ties += len(a.o.Ties)
		rounds += len(a.o.Rounds)
		lasts += len(a.against)
	}
	if ties < 100 || rounds < 300 || lasts < 500 {
		t.Errorf("the answers have %d ties, %d rounds and %d numbers of ballots", ties, rounds, lasts)
	}
}

// span is a piece of memory.
type span struct {
	name       string
	start, end uintptr
}

func spanOf[T any](name string, l []T) span {
	var one T
	start := uintptr(unsafe.Pointer(unsafe.SliceData(l)))
	return span{name, start, start + uintptr(cap(l))*unsafe.Sizeof(one)}
}

// spans returns the memory of each list of an answer, up to its capacity.
func (a answer) spans() []span {
	o := a.o
	l := []span{spanOf("against", a.against), spanOf("Elected", o.Elected), spanOf("Rounds", o.Rounds), spanOf("Ties", o.Ties)}
	for _, r := range o.Rounds {
		l = append(l, spanOf("Elected of a round", r.Elected), spanOf("Out", r.Out), spanOf("Had", r.Had), spanOf("Num of Lost", r.Lost.Num), spanOf("Den of Lost", r.Lost.Den))
		for _, n := range r.Had {
			l = append(l, spanOf("Num", n.Num), spanOf("Den", n.Den))
		}
	}
	for _, x := range o.Ties {
		l = append(l, spanOf("Among", x.Among))
	}
	return slices.DeleteFunc(l, func(s span) bool { return s.start == s.end })
}

// The lists of an answer, and of all answers, have each its own memory.
func TestR2PartsOfAnswersShareNothing(t *testing.T) {
	var all []answer
	var memory []span
	for _, x := range calls() {
		a := x.run()
		all = append(all, a)
		memory = append(memory, a.spans()...)
	}
	slices.SortFunc(memory, func(s, o span) int { return int(s.start) - int(o.start) })
	for i := 1; i < len(memory); i++ {
		if memory[i].start < memory[i-1].end {
			t.Errorf("%s and %s share memory", memory[i-1].name, memory[i].name)
		}
	}
	if len(memory) < 3000 {
		t.Errorf("the answers have %d lists", len(memory))
	}
	runtime.KeepAlive(all)
}

// To append to a list of an answer changes no other one of it.
func TestR2AppendingToAnAnswer(t *testing.T) {
	for _, x := range calls() {
		a := x.run()
		want := a.twin()
		_, _ = append(a.o.Elected, 77), append(a.o.Ties, tie(77, 77))
		_, _ = append(a.against, 77), append(a.o.Rounds, api.Round{Out: []int{77}})
		for _, r := range a.o.Rounds {
			_, _, _ = append(r.Elected, 77), append(r.Out, 77), append(r.Had, ratio.Whole(77))
			for _, n := range append(slices.Clone(r.Had), r.Lost) {
				_, _ = append(n.Num, 77), append(n.Den, 77)
			}
		}
		for _, d := range a.o.Ties {
			_ = append(d.Among, 77)
		}
		if !a.equal(want) {
			t.Errorf("%v: %v; want %v", x, a, want)
		}
	}
}

// A second answer depends neither on the first, nor on what became of it, nor on calls between.
func TestR2NothingIsKept(t *testing.T) {
	others := calls()
	for i, x := range calls() {
		first := x.run()
		want := first.twin()
		first.scribble()
		for j := i % 97; j < len(others); j += 97 {
			others[j].run()
		}
		if again := x.run(); !again.equal(want) {
			t.Errorf("%v: the second answer is %v; want %v", x, again, want)
		}
	}
}

// Calls at the same time do not disturb each other, also with the same arguments.
func TestR2CallsAtTheSameTime(t *testing.T) {
	all := calls()
	var joined sync.WaitGroup
	for range 4 {
		joined.Go(func() {
			for _, x := range all {
				if a, want := x.run(), x.model(x); !a.equal(want) {
					t.Errorf("%v: %v; want %v", x, a, want)
				}
			}
		})
	}
	joined.Wait()
}

// The rows may share their memory with each other, and with the lot.
func TestR2OneMemory(t *testing.T) {
	l := []int{0, 1, 2, 1}
	p := ranks(3, api.Row{Marks: l[:0], Many: 1}, api.Row{Marks: l[:1], Many: 2}, api.Row{Marks: l[:2], Many: 3}, api.Row{Marks: l[1:3], Many: 4}, api.Row{Marks: l[2:], Many: 5})
	check(t, p, l[:3], untied(out(0, 1, 5, 4, 5), won(1, 3, 0, 7, 5)))
	checkLasts(t, p, []bool{false, true, true}, 0, 8, 10)
	checkError(t, p, 1, l, api.ErrArg)
	if !slices.Equal(l, []int{0, 1, 2, 1}) {
		t.Errorf("the arguments become %v", l)
	}
}

// R3

func TestR3NilAndEmptyAreEqual(t *testing.T) {
	for _, empty := range [][]int{nil, {}, upTo(3)[:0], make([]int, 0, 20)} {
		checkError(t, ranks(1), 1, empty, api.ErrArg)
		checkError(t, ranks(3), 1, empty, api.ErrArg)
		checkError(t, ranks(0), 1, empty, api.ErrBad)
		checkError(t, ranks(0), 0, empty, api.ErrBad)
		blank := api.Row{Marks: empty, Many: 3}
		checkError(t, ranks(2, blank, blank), 1, []int{0, 1}, api.ErrBad)
		checkNoLasts(t, ranks(2, row(1), blank), nil)
		check(t, ranks(2, blank, row(2, 1)), []int{0, 1}, untied(won(1, 3, 0, 2)))
		checkLasts(t, ranks(2, blank, row(2, 1)), []bool{true, true}, 5, 3)
	}
	for _, rows := range [][]api.Row{nil, {}, make([]api.Row, 0, 5), make([]api.Row, 70)[:0]} {
		check(t, ranks(2, rows...), []int{1, 0}, byLot(0, []int{1, 0}))
		for _, left := range [][]bool{nil, {}, make([]bool, 0, 9), {true, true}} {
			checkLasts(t, ranks(2, rows...), left, 0, 0)
		}
	}
}

// Of each round either Elected or Out is empty; and there is no tie where nobody is eliminated.
func TestR3WhatTheChapterDoesNotMention(t *testing.T) {
	rounds := 0
	for _, x := range calls() {
		a := x.run()
		if x.name == "Count" && a.against != nil || x.name == "Lasts" && !same(a.o, api.Outcome{}) {
			t.Fatal("the answer has what is not its own")
		}
		for i, r := range a.o.Rounds {
			rounds++
			elected, gone := 0, 1
			if i == len(a.o.Rounds)-1 {
				elected, gone = 1, 0
			}
			if len(r.Elected) != elected || len(r.Out) != gone || len(a.o.Ties) > len(a.o.Rounds)-1 {
				t.Errorf("%v: %v", x, a.o)
			}
		}
	}
	if rounds < 300 {
		t.Errorf("%d rounds", rounds)
	}
}

// R4 bears on no call of the package by itself; it does on the text of the numbers in a round: 0 without a sign, and no denominators.
func TestR4NumbersAsText(t *testing.T) {
	for _, c := range []struct {
		p    api.Profile
		want []string
	}{
		{theExample(), []string{"4", "3", "2", "0", "4", "5", "0", "0"}},
		{ranks(1), []string{"0", "0"}},
		{ranks(2, row(999990), row(10, 1)), []string{"0", "10", "999990"}},
		{ranks(2, row(1000000, 0)), []string{"1000000", "0", "0"}},
		{ranks(2, row(256, 0), row(256, 1)), []string{"256", "256", "0", "256", "0", "256"}},
	} {
		var l []string
		for _, r := range run(t, c.p, upTo(c.p.Cands)).Rounds {
			for _, n := range append(slices.Clone(r.Had), r.Lost) {
				s, e := ratio.Text(n)
				if e != api.OK {
					t.Errorf("%v has no text", n)
				}
				l = append(l, s)
			}
		}
		if !slices.Equal(l, c.want) {
			t.Errorf("the numbers of %s are %v; want %v", show(c.p), l, c.want)
		}
	}
}

// R5

// The lot, from its end, is the order among equals; Among and Had are in the order of the candidates.
func TestR5Order(t *testing.T) {
	for _, lot := range lots(5) {
		check(t, ranks(5), lot, byLot(0, lot))
		// As the lot has them: two with most ballots, one with some, and two level ones with the fewest and so with the most against them, one of whom is chosen.
		p := ranks(5)
		for i, n := range []int{6, 6, 3, 2, 2} {
			p = add(p, n, lot[i])
		}
		had := func(gone int) []int {
			l := make([]int, 5)
			for i, n := range []int{6, 6, 3, 2, 2}[:5-gone] {
				l[lot[i]] = n
			}
			return l
		}
		last, first := slices.Sorted(slices.Values(lot[3:])), slices.Sorted(slices.Values(lot[:2]))
		check(t, p, lot, outcome([]api.Tie{tie(lot[4], last...), tie(lot[1], first...)},
			out(lot[4], 0, had(0)...), out(lot[3], 2, had(1)...), out(lot[2], 4, had(2)...), out(lot[1], 7, had(3)...), won(lot[0], 13, had(4)...)))
	}
}

// R6

// Numbers are taken as they are, and not in fewer bits, nor added until they are less again.
func TestR6NothingOverflows(t *testing.T) {
	for _, size := range []int{8, 16, 20, 31, 32, 33, 62} {
		for more := range 4 {
			wide := 1<<size + more
			checkError(t, ranks(3), wide, upTo(3), api.ErrArg)
			checkError(t, ranks(3), more-1<<size, upTo(3), api.ErrArg)
			checkError(t, ranks(3), 1, []int{0, 1, wide}, api.ErrArg)
			checkError(t, ranks(3), 1, []int{more - 1<<size, 1, 2}, api.ErrArg)
			checkError(t, ranks(wide), 1, upTo(3), api.ErrBad)
			checkError(t, ranks(more-1<<size), 1, upTo(3), api.ErrBad)
			checkNoLasts(t, ranks(wide), []bool{true})
			checkNoLasts(t, ranks(more-1<<size), []bool{true})
			checkNoLasts(t, ranks(3, row(1, wide)), []bool{true})
			checkNoLasts(t, ranks(3, row(1, more-1<<size)), []bool{true})
			if wide > 1000000 {
				checkError(t, ranks(1, row(wide, 0)), 1, []int{0}, api.ErrBad)
				checkNoLasts(t, ranks(1, row(wide, 0)), []bool{true})
				checkNoLasts(t, ranks(1, row(wide), row(wide, 0)), []bool{true})
			}
		}
	}
}

// R7

// A panic or an endless call would fail the test by itself.
func TestR7AnyArguments(t *testing.T) {
	long := upTo(300)
	profiles := append(someProfiles(), of(math.MinInt, 255, row(math.MinInt, math.MinInt)), ranks(3, make([]api.Row, 300)...), ranks(3, row(1, long...)), of(3, 2, row(1, long...)), of(300, 3, row(1, long...)))
	for i, wild := range wilds() {
		for j, other := range wilds() {
			x := call{left: make([]bool, max(0, min(wild, 300))), seats: other, lot: []int{wild, other, 1}}
			for k := range x.left {
				x.left[k] = (i*j+k)%3 > 0
			}
			if i%3 == 0 {
				x.lot = []int{2, 0, 1}
			}
			if j%5 == 0 {
				x.lot = long[:max(0, min(wild, 300))]
			}
			for _, x.p = range []api.Profile{profiles[(i+j*7)%len(profiles)], ranks(wild), ranks(3, row(wild, 0, other, 1)), ranks(3)} {
				for _, o := range operations() {
					if a, want := o.do(x), o.model(x); !a.equal(want) {
						t.Errorf("%s of %v: %v; want %v", o.name, x, a, want)
					}
				}
				x.seats = 1
			}
		}
	}
}

func TestR7GreatArguments(t *testing.T) {
	long := upTo(1 << 18)
	left := slices.Repeat([]bool{true}, 1<<18)
	for _, p := range []api.Profile{ranks(3, row(1, long...)), ranks(3, make([]api.Row, 1<<18)...), ranks(1<<18, row(1, long...)), ranks(10, slices.Repeat([]api.Row{row(1, long...)}, 64)...)} {
		checkError(t, p, 1, upTo(3), api.ErrBad)
		checkError(t, p, 1, long, api.ErrBad)
		checkNoLasts(t, p, left)
	}
	checkError(t, ranks(3), 1, long, api.ErrArg)
	checkLasts(t, theExample(), left, 2, 0, 7)
}

func TestR7RandomCalls(t *testing.T) {
	random := rand.New(rand.NewSource(543))
	seen := map[api.Errno]int{}
	for range 5000 {
		p := randomProfile(random, 1+random.Intn(10), api.KindRank)
		x := call{p: p, left: randomLeft(random, p.Cands), seats: 1, lot: random.Perm(p.Cands)}
		switch random.Intn(6) {
		case 0:
			x.p = spoilt(random, x.p)
		case 1:
			x.lot = spoiltLot(random, x.lot)
		case 2:
			x.seats = randomWild(random)
		case 3:
			x.p, x.seats, x.lot = spoilt(random, x.p), randomWild(random), spoiltLot(random, x.lot)
		}
		for _, o := range operations() {
			a, want := o.do(x), o.model(x)
			if !a.equal(want) {
				t.Errorf("%s of %v: %v; want %v", o.name, x, a, want)
			}
			seen[a.e]++
		}
	}
	if seen[api.OK] < 5000 || seen[api.ErrArg] < 1000 || seen[api.ErrBad] < 1000 {
		t.Errorf("the errors are %v", seen)
	}
}
