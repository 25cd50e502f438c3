package ranked_test

import (
	"fmt"
	"math"
	"math/rand"
	"runtime"
	"slices"
	"sync"
	"testing"
	"unsafe"

	"suffrage/api"
	"suffrage/profile"
	"suffrage/ranked"
	"suffrage/ratio"
)

// answer is all that a call returns, in one form for all calls.
type answer struct {
	leads bool
	l     []api.Link
	o     api.Outcome
	e     api.Errno
}

func (a answer) equal(b answer) bool {
	return a.leads == b.leads && slices.Equal(a.l, b.l) && same(a.o, b.o) && a.e == b.e
}

// twin returns a copy of a, with memory of its own.
func (a answer) twin() answer {
	a.l, a.o = slices.Clone(a.l), twin(a.o)
	return a
}

// operation is a function of the package, and the model's.
type operation struct {
	name      string
	do, model func(x call) answer
}

// call is a call with its arguments, of which each function takes its own.
type call struct {
	operation
	m     api.Pairs
	cands int
	links []api.Link
	x, y  int
	p     api.Profile
	seats int
	lot   []int
}

func (x call) String() string {
	return fmt.Sprintf("%s of %v among %d, of %v from %d to %d, or of %s, %d seats, lot %v", x.name, x.m, x.cands, x.links[:min(len(x.links), 50)], x.x, x.y, show(x.p), x.seats, x.lot[:min(len(x.lot), 50)])
}

// run returns the answer of the call.
func (x call) run() answer { return x.do(x) }

func linksAnswer(l []api.Link, e api.Errno) answer { return answer{l: l, e: e} }

func outcomeAnswer(o api.Outcome, e api.Errno) answer { return answer{o: o, e: e} }

// operations returns all of the package's functions.
func operations() []operation {
	return []operation{
		{"Order", func(x call) answer { return linksAnswer(ranked.Order(x.m, x.cands, x.lot)) }, func(x call) answer { return linksAnswer(modelOrder(x.m, x.cands, x.lot)) }},
		{"Lock", func(x call) answer { return linksAnswer(ranked.Lock(x.m, x.cands, x.lot)) }, func(x call) answer { return linksAnswer(modelLock(x.m, x.cands, x.lot)) }},
		{"Leads", func(x call) answer { return answer{leads: ranked.Leads(x.links, x.x, x.y)} }, func(x call) answer { return answer{leads: modelLeads(x.links, x.x, x.y)} }},
		{"Count", func(x call) answer { return outcomeAnswer(ranked.Count(x.p, x.seats, x.lot)) }, func(x call) answer { return outcomeAnswer(modelCount(x.p, x.seats, x.lot)) }},
	}
}

func roomyInts(l []int) []int { return append(slices.Clone(l), 1, 0, 7, -1, 1000)[:len(l)] }

func roomyLinks(l []api.Link) []api.Link {
	return append(slices.Clone(l), step(0, 1), step(1, 2), step(2, 0), link(-1, 9, 7, 7))[:len(l)]
}

// roomy returns p in memory of its own, with rows behind its length, and numbers behind those of the marks.
func roomy(p api.Profile) api.Profile {
	var rows []api.Row
	for _, r := range slices.Concat(p.Rows, []api.Row{row(3), row(1, 0), row(-7, 5, 5)}) {
		rows = append(rows, api.Row{Marks: roomyInts(r.Marks), Many: r.Many})
	}
	p.Rows = rows[:len(p.Rows)]
	return p
}

// someProfiles are valid ones, mostly of rankings, and others that are not.
func someProfiles() []api.Profile {
	random := rand.New(rand.NewSource(341))
	l := []api.Profile{theExample(), fiveCandidates(), twentySeven(), tennessee(), fullProfile(1), fullProfile(2), fullProfile(3), of(3, 2, row(1, 0, 2)), of(3, 3), of(3, 0), of(3, 4)}
	for cands := 1; cands <= 10; cands++ {
		p, q := randomProfile(random, cands, 1), randomProfile(random, cands, 1)
		l = append(l, ranks(cands), p, evened(random, p), q, evened(random, q), ranks(cands, row(4, upTo(cands)...)))
	}
	for _, e := range []api.Errno{api.ErrFull, api.ErrBad, api.ErrMany} {
		l = append(l, wrongProfiles()[e][:3]...)
	}
	return l
}

// someMatrices are valid among three candidates, among ten, and not.
func someMatrices() []api.Pairs {
	random := rand.New(rand.NewSource(342))
	l := []api.Pairs{{}, theMatrix(), ladder(3, 1), every(3, 500000), ladder(10, 1000000), every(10, 5), ring(2, 2, 2), ring(7, 7, 7, 7, 7, 7, 7, 7, 7, 7), every(10, -1), every(3, 500001), with(ladder(3, 1), 1, 1, 1)}
	for range 10 {
		l = append(l, spoiltMatrix(random, randomMatrix(random, 10)))
	}
	return l
}

// calls returns calls of each function, right and wrong, with lists that have room behind them.
func calls() []call {
	random := rand.New(rand.NewSource(343))
	var all []call
	profiles, matrices := someProfiles(), someMatrices()
	for i := range 3 * len(profiles) {
		p := profiles[i%len(profiles)]
		lot := random.Perm(min(max(p.Cands, 1), 10))
		m, cands := randomMatrix(random, len(lot)), len(lot)
		if random.Intn(6) == 0 {
			lot = spoiltLot(random, lot)
		}
		if i%5 == 0 {
			m = matrices[i/5%len(matrices)]
		}
		if i%13 == 0 {
			cands = random.Intn(14) - 1
		}
		links := randomLinks(random)
		if i%4 == 0 {
			links, _ = modelLock(m, cands, lot)
		}
		for _, o := range operations() {
			all = append(all, call{o, m, cands, roomyLinks(links), random.Intn(10), random.Intn(10), roomy(p), []int{1, 1, 1, 1, 2, 0, -1}[i%7], roomyInts(lot)})
		}
	}
	return all
}

func TestCallsHaveTheModelsAnswers(t *testing.T) {
	type kind struct {
		name string
		some bool
		e    api.Errno
	}
	seen := map[kind]int{}
	for _, x := range calls() {
		a, want := x.run(), x.model(x)
		if !a.equal(want) {
			t.Errorf("%v: %v; want %v", x, a, want)
		}
		seen[kind{x.name, a.leads || len(a.l) > 0 || len(a.o.Elected) > 0, a.e}]++
	}
	for _, k := range []kind{
		{"Order", true, 0}, {"Order", false, 0}, {"Order", false, api.ErrArg}, {"Order", false, api.ErrBad},
		{"Lock", true, 0}, {"Lock", false, 0}, {"Lock", false, api.ErrArg}, {"Lock", false, api.ErrBad},
		{"Leads", true, 0}, {"Leads", false, 0},
		{"Count", true, 0}, {"Count", false, api.ErrArg}, {"Count", false, api.ErrBad},
	} {
		if seen[k] < 8 {
			t.Errorf("the calls have %d answers like %v", seen[k], k)
		}
	}
}

// R1

func TestR1ErrorsComeInOrder(t *testing.T) {
	var wrong []api.Profile
	for _, l := range wrongProfiles() {
		wrong = append(wrong, l...)
	}
	right, lot := ranks(2), []int{0, 1}
	for _, p := range append(wrong, of(2, 2), of(2, 3)) {
		if p.Kind == 1 && profile.Check(p) == api.OK {
			t.Fatal("not wrong")
		}
		checkError(t, p, 1, lot, api.ErrBad)
		for _, seats := range []int{-1, 0, 2, 11, math.MinInt, math.MaxInt} {
			checkError(t, p, seats, lot, api.ErrBad)
			checkError(t, p, seats, nil, api.ErrBad)
			checkError(t, right, seats, lot, api.ErrArg)
			checkError(t, right, seats, nil, api.ErrArg)
		}
		for _, l := range wrongLots(2) {
			checkError(t, p, 1, l, api.ErrBad)
			checkError(t, right, 1, l, api.ErrArg)
		}
	}
	for _, m := range []api.Pairs{every(10, -1), every(2, 500001), with(api.Pairs{}, 1, 1, 1)} {
		for _, cands := range []int{math.MinInt, -1, 0, 11, math.MaxInt} {
			checkWrong(t, m, cands, upTo(10), api.ErrArg)
			checkWrong(t, m, cands, nil, api.ErrArg)
		}
		for _, cands := range []int{1, 2, 10} {
			for _, l := range wrongLots(cands) {
				checkWrong(t, m, cands, l, api.ErrArg)
			}
			checkWrong(t, m, cands, upTo(cands), api.ErrBad)
		}
	}
}

// The numbers of the errors are those of the document.
func TestR1ErrorNumbers(t *testing.T) {
	_, bad := ranked.Count(ranks(0), 0, nil)
	_, arg := ranked.Count(ranks(1), 0, []int{0})
	_, ok := ranked.Count(ranks(1), 1, []int{0})
	if numbers := []int{int(bad), int(arg), int(ok)}; !slices.Equal(numbers, []int{8, 2, 0}) {
		t.Errorf("the errors of Count are %v", numbers)
	}
	for _, f := range []func(api.Pairs, int, []int) ([]api.Link, api.Errno){ranked.Order, ranked.Lock} {
		_, bad = f(every(2, 1), 1, []int{0})
		_, arg = f(every(2, 1), 2, []int{0})
		_, ok = f(every(2, 1), 2, []int{0, 1})
		if numbers := []int{int(bad), int(arg), int(ok)}; !slices.Equal(numbers, []int{8, 2, 0}) {
			t.Errorf("the errors of Order and Lock are %v", numbers)
		}
	}
}

func TestR1NothingBesideAnError(t *testing.T) {
	failed := 0
	for _, x := range calls() {
		a := x.run()
		if a.e == api.OK {
			continue
		}
		failed++
		if a.l != nil || a.o.Elected != nil || a.o.Rounds != nil || a.o.Ties != nil {
			t.Errorf("%v: %v beside error %d", x, a, int(a.e))
		}
	}
	if failed < 100 {
		t.Errorf("%d calls fail", failed)
	}
}

// R2

// memory returns a text of all that the arguments hold, up to the capacities.
func (x call) memory() string {
	s := fmt.Sprint(x.m, len(x.links), x.links[:cap(x.links)], x.cands, x.p.Cands, x.p.Kind, len(x.p.Rows), x.seats, len(x.lot), x.lot[:cap(x.lot)])
	for _, r := range x.p.Rows[:cap(x.p.Rows)] {
		s += fmt.Sprint(len(r.Marks), r.Marks[:cap(r.Marks)], r.Many)
	}
	return s
}

func scribbleInts(l []int) {
	for i := range l[:cap(l)] {
		l[:cap(l)][i] ^= 0x5a5
	}
}

func scribbleLinks(l []api.Link) {
	for i := range l[:cap(l)] {
		k := &l[:cap(l)][i]
		*k = link(k.From^0x5a5, k.To^0x5a5, k.Margin^0x5a5, k.For^0x5a5)
	}
}

// scribbleArguments overwrites the memory of all arguments.
func (x call) scribbleArguments() {
	scribbleLinks(x.links)
	scribbleInts(x.lot)
	for i, r := range x.p.Rows[:cap(x.p.Rows)] {
		scribbleInts(r.Marks)
		x.p.Rows[:cap(x.p.Rows)][i] = row(r.Many^0x5a5, 99)
	}
}

func scribbleNumber(x *api.Ratio) {
	for _, limbs := range [][]uint32{x.Num[:cap(x.Num)], x.Den[:cap(x.Den)]} {
		for i := range limbs {
			limbs[i] ^= 0x5a5
		}
	}
	x.Neg = !x.Neg
}

// scribble overwrites the memory of an answer, up to the capacities.
func (a answer) scribble() {
	scribbleLinks(a.l)
	o := a.o
	scribbleInts(o.Elected)
	for i := range o.Rounds[:cap(o.Rounds)] {
		r := &o.Rounds[:cap(o.Rounds)][i]
		scribbleInts(r.Elected)
		scribbleInts(r.Out)
		scribbleNumber(&r.Lost)
		for j := range r.Had[:cap(r.Had)] {
			scribbleNumber(&r.Had[:cap(r.Had)][j])
		}
	}
	for i := range o.Ties[:cap(o.Ties)] {
		scribbleInts(o.Ties[:cap(o.Ties)][i].Among)
		o.Ties[:cap(o.Ties)][i].Chosen ^= 0x5a5
	}
}

func TestR2ArgumentsStay(t *testing.T) {
	for _, x := range calls() {
		before := x.memory()
		x.run()
		if x.memory() != before {
			t.Errorf("%v: the memory of an argument changes", x)
		}
	}
}

func TestR2AnswersShareNothingWithArguments(t *testing.T) {
	ties, elected, links := 0, 0, 0
	for _, x := range calls() {
		before := x.memory()
		a := x.run()
		want := a.twin()
		a.scribble()
		if x.memory() != before {
			t.Errorf("%v: an argument changes with the answer", x)
		}
		a = x.run()
		x.scribbleArguments()
		if !a.equal(want) {
			t.Errorf("the answer of %s changes with the arguments: %v; want %v", x.name, a, want)
		}
		ties += len(a.o.Ties)
		elected += len(a.o.Elected)
		links += len(a.l)
	}
	if ties < 25 || elected < 50 || links < 500 {
		t.Errorf("the answers have %d ties, %d elected candidates and %d links", ties, elected, links)
	}
}

// span is a piece of memory.
type span struct {
	name       string
	start, end uintptr
}

func spanOf[T any](name string, l []T) span {
	var one T
	start := uintptr(unsafe.Pointer(unsafe.SliceData(l)))
	return span{name, start, start + uintptr(cap(l))*unsafe.Sizeof(one)}
}

// spans returns the memory of each list of an answer, up to its capacity.
func (a answer) spans() []span {
	o := a.o
	l := []span{spanOf("links", a.l), spanOf("Elected", o.Elected), spanOf("Rounds", o.Rounds), spanOf("Ties", o.Ties)}
	for _, r := range o.Rounds {
		l = append(l, spanOf("Elected of the round", r.Elected), spanOf("Out", r.Out), spanOf("Had", r.Had), spanOf("Num of Lost", r.Lost.Num), spanOf("Den of Lost", r.Lost.Den))
		for _, n := range r.Had {
			l = append(l, spanOf("Num", n.Num), spanOf("Den", n.Den))
		}
	}
	for _, x := range o.Ties {
		l = append(l, spanOf("Among", x.Among))
	}
	return slices.DeleteFunc(l, func(s span) bool { return s.start == s.end })
}

// The lists of an answer, and of all answers, have each its own memory.
func TestR2PartsOfAnswersShareNothing(t *testing.T) {
	var all []answer
	var memory []span
	for _, x := range calls() {
		a := x.run()
		all = append(all, a)
		memory = append(memory, a.spans()...)
	}
	slices.SortFunc(memory, func(s, o span) int { return int(s.start) - int(o.start) })
	for i := 1; i < len(memory); i++ {
		if memory[i].start < memory[i-1].end {
			t.Errorf("%s and %s share memory", memory[i-1].name, memory[i].name)
		}
	}
	if len(memory) < 1000 {
		t.Errorf("the answers have %d lists", len(memory))
	}
	runtime.KeepAlive(all)
}

// To append to a list of an answer changes no other one of it.
func TestR2AppendingToAnAnswer(t *testing.T) {
	for _, x := range calls() {
		a := x.run()
		want := a.twin()
		_, _ = append(a.o.Elected, 77), append(a.o.Ties, tie(77, 77))
		_, _ = append(a.l, step(7, 7)), append(a.o.Rounds, api.Round{Out: []int{77}})
		for _, r := range a.o.Rounds {
			_, _ = append(r.Elected, 77), append(r.Had, ratio.Whole(77))
			for _, n := range append(slices.Clone(r.Had), r.Lost) {
				_, _ = append(n.Num, 77), append(n.Den, 77)
			}
		}
		for _, d := range a.o.Ties {
			_ = append(d.Among, 77)
		}
		if !a.equal(want) {
			t.Errorf("%v: %v; want %v", x, a, want)
		}
	}
}

// A second answer depends neither on the first, nor on what became of it, nor on calls between.
func TestR2NothingIsKept(t *testing.T) {
	others := calls()
	for i, x := range calls() {
		first := x.run()
		want := first.twin()
		first.scribble()
		for j := i % 97; j < len(others); j += 97 {
			others[j].run()
		}
		if again := x.run(); !again.equal(want) {
			t.Errorf("%v: the second answer is %v; want %v", x, again, want)
		}
	}
}

// Calls at the same time do not disturb each other, also with the same arguments.
func TestR2CallsAtTheSameTime(t *testing.T) {
	all := calls()
	var joined sync.WaitGroup
	for range 4 {
		joined.Go(func() {
			for _, x := range all {
				if a, want := x.run(), x.model(x); !a.equal(want) {
					t.Errorf("%v: %v; want %v", x, a, want)
				}
			}
		})
	}
	joined.Wait()
}

// The rows may share their memory with each other, and with the lot.
func TestR2OneMemory(t *testing.T) {
	l := []int{0, 1, 2, 1}
	p := ranks(3, api.Row{Marks: l[:0], Many: 1}, api.Row{Marks: l[:1], Many: 2}, api.Row{Marks: l[:2], Many: 3}, api.Row{Marks: l[1:3], Many: 4}, api.Row{Marks: l[2:], Many: 5})
	// 0 and 1: 5 to 9; 0 and 2: 5 to 9; 1 and 2: 7 to 5.
	check(t, p, l[:3], outcome([]int{0, 2, 1}, 1))
	checkError(t, p, 1, l, api.ErrArg)
	if !slices.Equal(l, []int{0, 1, 2, 1}) {
		t.Errorf("the arguments become %v", l)
	}
}

// R3

func TestR3NilAndEmptyAreEqual(t *testing.T) {
	for _, empty := range [][]int{nil, {}, upTo(3)[:0], make([]int, 0, 20)} {
		checkError(t, ranks(1), 1, empty, api.ErrArg)
		checkError(t, ranks(3), 1, empty, api.ErrArg)
		checkError(t, ranks(0), 1, empty, api.ErrBad)
		checkError(t, ranks(0), 0, empty, api.ErrBad)
		blank := api.Row{Marks: empty, Many: 3}
		checkError(t, ranks(2, blank, blank), 1, []int{0, 1}, api.ErrBad)
		checkError(t, ranks(2, row(1), blank), 1, []int{0, 1}, api.ErrBad)
		check(t, ranks(2, blank, row(2, 1)), []int{0, 1}, outcome([]int{0, 1}, 1))
		checkWrong(t, api.Pairs{}, 1, empty, api.ErrArg)
		checkWrong(t, api.Pairs{}, 0, empty, api.ErrArg)
	}
	for _, rows := range [][]api.Row{nil, {}, make([]api.Row, 0, 5), make([]api.Row, 70)[:0]} {
		check(t, ranks(2, rows...), []int{1, 0}, outcome([]int{0, 0}, 1, tie(1, 0, 1)))
	}
}

// Nobody is out, nothing is lost, and there is at most one tie.
func TestR3WhatTheChapterDoesNotMention(t *testing.T) {
	outcomes := 0
	for _, x := range calls() {
		o := x.run().o
		for _, r := range o.Rounds {
			outcomes++
			if len(o.Rounds) != 1 || len(r.Out) != 0 || !ratio.Same(r.Lost, ratio.Whole(0)) || len(o.Ties) > 1 || x.p.Cands == 1 && len(o.Ties) > 0 {
				t.Errorf("%v: %v", x, o)
			}
		}
	}
	if outcomes < 60 {
		t.Errorf("%d outcomes", outcomes)
	}
}

// R4 bears on no call of the package by itself; it does on the text of the numbers in a round: 0 without a sign, and no denominators.
func TestR4NumbersAsText(t *testing.T) {
	for _, c := range []struct {
		p    api.Profile
		want []string
	}{
		{theExample(), []string{"1", "1", "0", "0"}},
		{ranks(1), []string{"0", "0"}},
		{ranks(10, row(1000000, 3)), []string{"0", "0", "0", "9", "0", "0", "0", "0", "0", "0", "0"}},
	} {
		o, e := ranked.Count(c.p, 1, upTo(c.p.Cands))
		if e != api.OK {
			t.Fatal(int(e))
		}
		var l []string
		for _, n := range append(slices.Clone(o.Rounds[0].Had), o.Rounds[0].Lost) {
			s, e := ratio.Text(n)
			if e != api.OK {
				t.Errorf("%v has no text", n)
			}
			l = append(l, s)
		}
		if !slices.Equal(l, c.want) {
			t.Errorf("the numbers of %s are %v; want %v", show(c.p), l, c.want)
		}
	}
}

// R5

// The lot is the order among equals; Among and Had are in the order of the candidates.
func TestR5Order(t *testing.T) {
	for _, lot := range lots(5) {
		check(t, ranks(5), lot, outcome(make([]int, 5), lot[0], tie(lot[0], upTo(5)...)))
		// The candidates as the lot has them: three level ones, and two behind each other.
		p := ranks(5, row(6))
		for i := range 3 {
			circle := slices.Concat(lot[i:3], lot[:i])
			for _, marks := range [][]int{slices.Concat(circle, lot[3:]), slices.Concat(reversed(circle), lot[3:])} {
				var e api.Errno
				if p, e = profile.Add(p, api.Ballot{Kind: 1, Marks: marks}, 1); e != api.OK {
					t.Fatal(int(e))
				}
			}
		}
		best := slices.Sorted(slices.Values(lot[:3]))
		had := slices.Repeat([]int{2}, 5)
		had[lot[3]], had[lot[4]] = 1, 0
		check(t, p, lot, outcome(had, lot[0], tie(lot[0], best...)))
		check(t, p, reversed(lot), outcome(had, lot[2], tie(lot[2], best...)))
		// Links that are equal in their numbers come as the lot has them.
		m := linking(link(lot[1], lot[0], 3, 3), link(lot[1], lot[4], 3, 3), link(lot[0], lot[3], 3, 3), link(lot[4], lot[2], 3, 3))
		checkOrder(t, m, lot, link(lot[0], lot[3], 3, 3), link(lot[1], lot[0], 3, 3), link(lot[1], lot[4], 3, 3), link(lot[4], lot[2], 3, 3))
	}
}

// R6

// Numbers are taken as they are, and not in fewer bits, nor added until they are less again.
func TestR6NothingOverflows(t *testing.T) {
	for _, size := range []int{8, 16, 20, 31, 32, 33, 62} {
		for more := range 4 {
			wide := 1<<size + more
			checkError(t, ranks(3), wide, upTo(3), api.ErrArg)
			checkError(t, ranks(3), more-1<<size, upTo(3), api.ErrArg)
			checkError(t, ranks(3), 1, []int{0, 1, wide}, api.ErrArg)
			checkError(t, ranks(3), 1, []int{more - 1<<size, 1, 2}, api.ErrArg)
			checkError(t, ranks(wide), 1, upTo(3), api.ErrBad)
			checkError(t, ranks(more-1<<size), 1, upTo(3), api.ErrBad)
			checkTwice(t, []api.Link{step(wide, 9)}, more, 9, false)
			checkTwice(t, []api.Link{step(9, more)}, 9, wide, false)
			checkTwice(t, []api.Link{step(9, wide), step(more, 8)}, 9, 8, false)
			checkTwice(t, []api.Link{step(9, more-1<<size), step(more-1<<size, 8)}, 9, 8, true)
			checkWrong(t, ladder(3, 1), wide, upTo(3), api.ErrArg)
			checkWrong(t, ladder(3, 1), more-1<<size, upTo(3), api.ErrArg)
			checkWrong(t, ladder(3, 1), 3, []int{0, 1, wide}, api.ErrArg)
			checkWrong(t, ladder(3, 1), 3, []int{more - 1<<size, 1, 2}, api.ErrArg)
			checkWrong(t, with(ladder(3, 1), 0, 1, -wide), 3, upTo(3), api.ErrBad)
			if wide > 1000000 {
				checkError(t, ranks(1, row(wide, 0)), 1, []int{0}, api.ErrBad)
				checkWrong(t, with(ladder(3, 1), 0, 1, wide), 3, upTo(3), api.ErrBad)
			}
		}
	}
	for _, n := range []int{math.MaxInt, math.MaxInt - 1, 1 << 62, 1<<62 + 500000} {
		for back := range 5 {
			for _, other := range []int{math.MaxInt - back, math.MinInt + back, 2 + back, -n - back, 1<<62 + back} {
				m := with(with(api.Pairs{}, 3, 1, n), 1, 3, other)
				checkWrong(t, m, 4, upTo(4), api.ErrBad)
			}
		}
	}
}

// R7

// A panic or an endless call would fail the test by itself.
func TestR7AnyArguments(t *testing.T) {
	long := upTo(300)
	profiles := append(someProfiles(), of(math.MinInt, 255, row(math.MinInt, math.MinInt)), ranks(3, make([]api.Row, 300)...), ranks(3, row(1, long...)), of(3, 2, row(1, long...)), of(300, 3, row(1, long...)))
	matrices := someMatrices()
	for i, wild := range wilds() {
		for j, other := range wilds() {
			x := call{m: matrices[(i+2*j)%len(matrices)], links: []api.Link{step(j%10, wild), step(other, i%10), link(wild, other, other, wild)}[i%2 : 2+j%2], x: wild, y: other, cands: other, seats: other, lot: []int{wild, other, 1}}
			if i%2 == 0 {
				x.m[i%10][j%10], x.cands = wild, 3
			}
			if i%3 == 0 {
				x.lot = []int{2, 0, 1}
			}
			if j%5 == 0 {
				x.lot = long[:max(0, min(wild, 300))]
			}
			for _, x.p = range []api.Profile{profiles[(i+j*7)%len(profiles)], ranks(wild), ranks(3, row(wild, 0, other, 1)), ranks(3)} {
				for _, o := range operations() {
					if a, want := o.do(x), o.model(x); !a.equal(want) {
						t.Errorf("%s of %v: %v; want %v", o.name, x, a, want)
					}
				}
				x.seats = 1
			}
		}
	}
}

func TestR7GreatArguments(t *testing.T) {
	long := upTo(1 << 18)
	checkError(t, ranks(3, row(1, long...)), 1, upTo(3), api.ErrBad)
	checkError(t, ranks(3, make([]api.Row, 1<<18)...), 1, upTo(3), api.ErrBad)
	checkError(t, ranks(1<<18, row(1, long...)), 1, long, api.ErrBad)
	checkError(t, ranks(10, slices.Repeat([]api.Row{row(1, long...)}, 64)...), 1, upTo(10), api.ErrBad)
	checkError(t, ranks(3), 1, long, api.ErrArg)
	for _, cands := range []int{1, 10, 1 << 18, math.MaxInt} {
		checkWrong(t, ladder(10, 1000000), cands, long, api.ErrArg)
	}
	checkLeads(t, slices.Repeat([]api.Link{step(4, 4), link(4, 5, 1, 1)}, 1<<18), 4, 5, true)
	checkLeads(t, slices.Repeat([]api.Link{step(4, 4), link(4, 5, 1, 1)}, 1<<18), 4, 6, false)
}

func TestR7RandomCalls(t *testing.T) {
	random := rand.New(rand.NewSource(344))
	seen := map[api.Errno]int{}
	for range 3000 {
		p := randomProfile(random, 1+random.Intn(10), api.KindRank)
		x := call{m: randomMatrix(random, p.Cands), cands: p.Cands, links: randomLinks(random), x: random.Intn(10), y: random.Intn(10), p: p, seats: 1, lot: random.Perm(p.Cands)}
		switch random.Intn(6) {
		case 0:
			x.p, x.m = spoilt(random, x.p), spoiltMatrix(random, x.m)
		case 1:
			x.lot = spoiltLot(random, x.lot)
		case 2:
			x.seats, x.cands = randomWild(random), randomWild(random)
		case 3:
			x.p, x.seats, x.lot, x.m, x.cands = spoilt(random, x.p), randomWild(random), spoiltLot(random, x.lot), spoiltMatrix(random, x.m), randomWild(random)
		}
		if random.Intn(5) == 0 {
			x.x, x.y = randomWild(random), randomWild(random)
		}
		for _, o := range operations() {
			a, want := o.do(x), o.model(x)
			if !a.equal(want) {
				t.Errorf("%s of %v: %v; want %v", o.name, x, a, want)
			}
			seen[a.e]++
		}
	}
	if seen[api.OK] < 6000 || seen[api.ErrArg] < 1000 || seen[api.ErrBad] < 1000 {
		t.Errorf("the errors are %v", seen)
	}
}
