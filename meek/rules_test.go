package meek_test

import (
	"fmt"
	"math"
	"math/rand"
	"runtime"
	"slices"
	"strings"
	"sync"
	"testing"
	"unsafe"

	"suffrage/api"
	"suffrage/meek"
	"suffrage/profile"
	"suffrage/ratio"
)

// answer is all that a call returns, in one form for all calls.
type answer struct {
	parts []int
	n     int
	o     api.Outcome
	e     api.Errno
}

func (a answer) equal(b answer) bool {
	return slices.Equal(a.parts, b.parts) && a.n == b.n && same(a.o, b.o) && a.e == b.e
}

// twin returns a copy of a, with memory of its own.
func (a answer) twin() answer {
	a.parts, a.o = slices.Clone(a.parts), twin(a.o)
	return a
}

// String shows an answer in a report.
func (a answer) String() string {
	return fmt.Sprintf("(%v, %d, %s, error %d)", a.parts, a.n, tell(a.o), int(a.e))
}

// operation is a function of the package, and the model's.
type operation struct {
	name      string
	do, model func(x call) answer
}

// call is a call with its arguments, of which each function takes its own.
type call struct {
	operation
	p                 api.Profile
	seats             int
	lot, marks, keeps []int
	votes, lost       int
	keep, n, quota    int
}

func (x call) String() string {
	some := func(l []int) []int { return l[:min(len(l), 50)] }
	return fmt.Sprintf("%s of %s, %d seats, lot %v, or %v, %v, or %d, %d, or %d, %d, %d", x.name, show(x.p), x.seats, some(x.lot), some(x.marks), some(x.keeps), x.votes, x.lost, x.keep, x.n, x.quota)
}

// run returns the answer of the call.
func (x call) run() answer { return x.do(x) }

func outcomeAnswer(o api.Outcome, e api.Errno) answer { return answer{o: o, e: e} }

func intAnswer(n int, e api.Errno) answer { return answer{n: n, e: e} }

func partsAnswer(parts []int, rest int, e api.Errno) answer {
	return answer{parts: parts, n: rest, e: e}
}

// operations returns the package's functions.
func operations() []operation {
	return []operation{
		{"Count", func(x call) answer { return outcomeAnswer(meek.Count(x.p, x.seats, x.lot)) }, func(x call) answer { return outcomeAnswer(modelCount(x.p, x.seats, x.lot)) }},
		{"Parts", func(x call) answer { return partsAnswer(meek.Parts(x.marks, x.keeps)) }, func(x call) answer { return partsAnswer(modelParts(x.marks, x.keeps)) }},
		{"Quota", func(x call) answer { return intAnswer(meek.Quota(x.votes, x.lost, x.seats)) }, func(x call) answer { return intAnswer(modelQuota(x.votes, x.lost, x.seats)) }},
		{"Keep", func(x call) answer { return intAnswer(meek.Keep(x.keep, x.n, x.quota)) }, func(x call) answer { return intAnswer(modelKeep(x.keep, x.n, x.quota)) }},
	}
}

// randomKeeps returns keep values.
func randomKeeps(random *rand.Rand, cands int) []int {
	var keeps []int
	for range cands {
		keeps = append(keeps, []int{0, unit, random.Intn(unit + 1), unit - random.Intn(1000)}[random.Intn(4)])
	}
	return keeps
}

func roomyInts(l []int) []int { return append(slices.Clone(l), 1, 0, 7, -1, 1000)[:len(l)] }

// roomy returns p in memory of its own, with rows behind its length, and numbers behind those of the marks.
func roomy(p api.Profile) api.Profile {
	var rows []api.Row
	for _, r := range slices.Concat(p.Rows, []api.Row{row(3), row(1, 0), row(-7, 5, 5)}) {
		rows = append(rows, api.Row{Marks: roomyInts(r.Marks), Many: r.Many})
	}
	p.Rows = rows[:len(p.Rows)]
	return p
}

// someProfiles are valid ones, mostly of rankings, and others that are not.
func someProfiles() []api.Profile {
	random := rand.New(rand.NewSource(1941))
	l := []api.Profile{theExample(), fullProfile(1), unevenProfile(), fullProfile(2), fullProfile(3), of(3, 2, row(1, 0, 2)), of(3, 3), of(3, 0), of(3, 4)}
	for cands := 1; cands <= 10; cands++ {
		p, q := randomProfile(random, cands, 1), randomProfile(random, cands, 1)
		l = append(l, ranks(cands), p, evened(random, p), q, evened(random, q), leaning(random), leaning(random), ranks(cands, row(4, upTo(cands)...)))
	}
	for _, e := range []api.Errno{api.ErrFull, api.ErrBad, api.ErrMany} {
		l = append(l, wrongProfiles()[e][:3]...)
	}
	return l
}

// calls returns calls of each function, right and wrong, with lists that have room behind them.
func calls() []call {
	random := rand.New(rand.NewSource(1942))
	var all []call
	profiles := someProfiles()
	for i := range 3 * len(profiles) {
		p := profiles[i%len(profiles)]
		cands := min(max(p.Cands, 1), 10)
		lot := random.Perm(cands)
		if random.Intn(6) == 0 {
			lot = spoiltLot(random, lot)
		}
		n, votes := 1+random.Intn(most), random.Intn(million+1)
		for _, o := range operations() {
			x := call{operation: o, p: roomy(p), seats: 1 + random.Intn(cands), lot: roomyInts(lot), votes: votes, lost: random.Intn(votes*unit + 1), keep: random.Intn(unit + 1), n: n, quota: random.Intn(n + 1)}
			x.marks, x.keeps = roomyInts(lot[:random.Intn(len(lot)+1)]), roomyInts(randomKeeps(random, cands))
			switch i % 7 {
			case 4:
				x.seats, x.quota, x.keeps[0] = 11, n+1, -1
			case 5:
				x.seats, x.keep, x.marks = 0, -1, roomyInts([]int{0, 0})
			case 6:
				x.seats, x.n, x.keeps = -1, most+1, roomyInts(nil)
			}
			all = append(all, x)
		}
	}
	return all
}

func TestCallsHaveTheModelsAnswers(t *testing.T) {
	type kind struct {
		name string
		e    api.Errno
	}
	seen := map[kind]int{}
	for _, x := range calls() {
		a, want := x.run(), x.model(x)
		if !a.equal(want) {
			t.Errorf("%v: %v; want %v", x, a, want)
		}
		seen[kind{x.name, a.e}]++
	}
	kinds := []kind{{"Count", 0}, {"Count", api.ErrArg}, {"Count", api.ErrBad}, {"Parts", 0}, {"Parts", api.ErrArg}, {"Quota", 0}, {"Quota", api.ErrArg}, {"Keep", 0}, {"Keep", api.ErrArg}}
	for _, k := range kinds {
		if seen[k] < 20 {
			t.Errorf("the calls have %d answers like %v", seen[k], k)
		}
	}
	if len(seen) != len(kinds) {
		t.Errorf("the calls have answers like these: %v", seen)
	}
}

// R1

func TestR1ErrorsComeInOrder(t *testing.T) {
	var wrong []api.Profile
	for _, l := range wrongProfiles() {
		wrong = append(wrong, l...)
	}
	right, lot := ranks(2), []int{0, 1}
	for _, p := range append(wrong, of(2, 2), of(2, 3)) {
		if p.Kind == 1 && profile.Check(p) == api.OK {
			t.Fatal("not wrong")
		}
		checkError(t, p, 1, lot, api.ErrBad)
		for _, seats := range []int{-1, 0, 3, 11, math.MinInt, math.MaxInt} {
			checkError(t, p, seats, lot, api.ErrBad)
			checkError(t, p, seats, nil, api.ErrBad)
			checkError(t, right, seats, lot, api.ErrArg)
			checkError(t, right, seats, nil, api.ErrArg)
		}
		for _, l := range wrongLots(2) {
			checkError(t, p, 1, l, api.ErrBad)
			checkError(t, right, 1, l, api.ErrArg)
		}
	}
}

// The numbers of the errors are those of the document.
func TestR1ErrorNumbers(t *testing.T) {
	_, bad := meek.Count(ranks(0), 0, nil)
	_, arg := meek.Count(ranks(1), 0, []int{0})
	_, ok := meek.Count(ranks(1), 1, []int{0})
	_, _, none := meek.Parts(nil, nil)
	_, _, fine := meek.Parts(nil, []int{0})
	_, great := meek.Quota(1, 0, 11)
	_, ten := meek.Quota(1, 0, 10)
	_, zero := meek.Keep(1, 0, 0)
	_, one := meek.Keep(1, 1, 1)
	if numbers := []int{int(bad), int(arg), int(ok), int(none), int(fine), int(great), int(ten), int(zero), int(one)}; !slices.Equal(numbers, []int{8, 2, 0, 2, 0, 2, 0, 2, 0}) {
		t.Errorf("the errors are %v", numbers)
	}
}

func TestR1NothingBesideAnError(t *testing.T) {
	failed := 0
	for _, x := range calls() {
		a := x.run()
		if a.e == api.OK {
			continue
		}
		failed++
		if a.parts != nil || a.n != 0 || a.o.Elected != nil || a.o.Rounds != nil || a.o.Ties != nil {
			t.Errorf("%v: %v", x, a)
		}
	}
	if failed < 100 {
		t.Errorf("%d calls fail", failed)
	}
}

// R2

// memory returns a text of all that the arguments hold, up to the capacities.
func (x call) memory() string {
	s := fmt.Sprint(x.p.Cands, x.p.Kind, len(x.p.Rows), x.seats, len(x.lot), x.lot[:cap(x.lot)], len(x.marks), x.marks[:cap(x.marks)], len(x.keeps), x.keeps[:cap(x.keeps)])
	for _, r := range x.p.Rows[:cap(x.p.Rows)] {
		s += fmt.Sprint(len(r.Marks), r.Marks[:cap(r.Marks)], r.Many)
	}
	return s
}

func scribbleInts(l []int) {
	for i := range l[:cap(l)] {
		l[:cap(l)][i] ^= 0x5a5
	}
}

// scribbleArguments overwrites the memory of all arguments.
func (x call) scribbleArguments() {
	scribbleInts(x.lot)
	scribbleInts(x.marks)
	scribbleInts(x.keeps)
	for i, r := range x.p.Rows[:cap(x.p.Rows)] {
		scribbleInts(r.Marks)
		x.p.Rows[:cap(x.p.Rows)][i] = row(r.Many^0x5a5, 99)
	}
}

func scribbleNumber(x *api.Ratio) {
	for _, limbs := range [][]uint32{x.Num[:cap(x.Num)], x.Den[:cap(x.Den)]} {
		for i := range limbs {
			limbs[i] ^= 0x5a5
		}
	}
	x.Neg = !x.Neg
}

// scribble overwrites the memory of an answer, up to the capacities.
func (a answer) scribble() {
	o := a.o
	scribbleInts(a.parts)
	scribbleInts(o.Elected)
	for i := range o.Rounds[:cap(o.Rounds)] {
		r := &o.Rounds[:cap(o.Rounds)][i]
		scribbleInts(r.Elected)
		scribbleInts(r.Out)
		scribbleNumber(&r.Lost)
		for j := range r.Had[:cap(r.Had)] {
			scribbleNumber(&r.Had[:cap(r.Had)][j])
		}
	}
	for i := range o.Ties[:cap(o.Ties)] {
		scribbleInts(o.Ties[:cap(o.Ties)][i].Among)
		o.Ties[:cap(o.Ties)][i].Chosen ^= 0x5a5
	}
}

func TestR2ArgumentsStay(t *testing.T) {
	for _, x := range calls() {
		before := x.memory()
		x.run()
		if x.memory() != before {
			t.Errorf("%v: the memory of an argument changes", x)
		}
	}
}

func TestR2AnswersShareNothingWithArguments(t *testing.T) {
	decisions, rounds, parts := 0, 0, 0
	for _, x := range calls() {
		before := x.memory()
		a := x.run()
		want := a.twin()
		a.scribble()
		if x.memory() != before {
			t.Errorf("%v: an argument changes with the answer", x)
		}
		a = x.run()
		x.scribbleArguments()
		if !a.equal(want) {
			t.Errorf("the answer of %s changes with the arguments: %v; want %v", x.name, a, want)
		}
		decisions += len(a.o.Ties)
		rounds += len(a.o.Rounds)
		parts += len(a.parts)
	}
	if decisions < 100 || rounds < 300 || parts < 300 {
		t.Errorf("the answers have %d ties, %d rounds and %d parts", decisions, rounds, parts)
	}
}

// span is a piece of memory.
type span struct {
	name       string
	start, end uintptr
}

func spanOf[T any](name string, l []T) span {
	var one T
	start := uintptr(unsafe.Pointer(unsafe.SliceData(l)))
	return span{name, start, start + uintptr(cap(l))*unsafe.Sizeof(one)}
}

// spans returns the memory of each list of an answer, up to its capacity.
func (a answer) spans() []span {
	o := a.o
	l := []span{spanOf("the parts", a.parts), spanOf("Elected", o.Elected), spanOf("Rounds", o.Rounds), spanOf("Ties", o.Ties)}
	for _, r := range o.Rounds {
		l = append(l, spanOf("Elected of a round", r.Elected), spanOf("Out", r.Out), spanOf("Had", r.Had), spanOf("Num of Lost", r.Lost.Num), spanOf("Den of Lost", r.Lost.Den))
		for _, n := range r.Had {
			l = append(l, spanOf("Num", n.Num), spanOf("Den", n.Den))
		}
	}
	for _, x := range o.Ties {
		l = append(l, spanOf("Among", x.Among))
	}
	return slices.DeleteFunc(l, func(s span) bool { return s.start == s.end })
}

// The lists of an answer, and of all answers, have each its own memory.
func TestR2PartsOfAnswersShareNothing(t *testing.T) {
	var all []answer
	var memory []span
	for _, x := range calls() {
		a := x.run()
		all = append(all, a)
		memory = append(memory, a.spans()...)
	}
	slices.SortFunc(memory, func(s, o span) int { return int(s.start) - int(o.start) })
	for i := 1; i < len(memory); i++ {
		if memory[i].start < memory[i-1].end {
			t.Errorf("%s and %s share memory", memory[i-1].name, memory[i].name)
		}
	}
	if len(memory) < 3000 {
		t.Errorf("the answers have %d lists", len(memory))
	}
	runtime.KeepAlive(all)
}

// To append to a list of an answer changes no other one of it.
func TestR2AppendingToAnAnswer(t *testing.T) {
	for _, x := range calls() {
		a := x.run()
		want := a.twin()
		_, _, _, _ = append(a.parts, 77), append(a.o.Elected, 77), append(a.o.Ties, tie(77, 77)), append(a.o.Rounds, api.Round{Out: []int{77}})
		for _, r := range a.o.Rounds {
			_, _, _ = append(r.Elected, 77), append(r.Out, 77), append(r.Had, ratio.Whole(77))
			for _, n := range append(slices.Clone(r.Had), r.Lost) {
				_, _ = append(n.Num, 77), append(n.Den, 77)
			}
		}
		for _, d := range a.o.Ties {
			_ = append(d.Among, 77)
		}
		if !a.equal(want) {
			t.Errorf("%v: %v; want %v", x, a, want)
		}
	}
}

// A second answer depends neither on the first, nor on what became of it, nor on calls between.
func TestR2NothingIsKept(t *testing.T) {
	between := calls()
	for i, x := range calls() {
		first := x.run()
		want := first.twin()
		first.scribble()
		for j := i % 97; j < len(between); j += 97 {
			between[j].run()
		}
		if again := x.run(); !again.equal(want) {
			t.Errorf("%v: the second answer is %v; want %v", x, again, want)
		}
	}
}

// Calls at the same time do not disturb each other, also with the same arguments.
func TestR2CallsAtTheSameTime(t *testing.T) {
	all := calls()
	var joined sync.WaitGroup
	for range 4 {
		joined.Go(func() {
			for _, x := range all {
				if a, want := x.run(), x.model(x); !a.equal(want) {
					t.Errorf("%v: %v; want %v", x, a, want)
				}
			}
		})
	}
	joined.Wait()
}

// The rows may share their memory with each other, and with the lot; and the marks with the keep values.
func TestR2OneMemory(t *testing.T) {
	l := []int{0, 1, 2, 1}
	p := ranks(3, api.Row{Marks: l[:0], Many: 1}, api.Row{Marks: l[:1], Many: 2}, api.Row{Marks: l[:2], Many: 4}, api.Row{Marks: l[1:3], Many: 1}, api.Row{Marks: l[2:], Many: 2})
	check(t, p, 2, l[:3], untied(won("6 1 2 | 0", 0), won("3.000000006 2.999999996 2 | 0.999999998", 1)))
	checkError(t, p, 1, l, api.ErrArg)
	for n := range 4 {
		checkParts(t, l[:n], l)
		checkParts(t, l[:n], l[:3])
	}
	if !slices.Equal(l, []int{0, 1, 2, 1}) {
		t.Errorf("the arguments become %v", l)
	}
}

// R3

func TestR3NilAndEmptyAreEqual(t *testing.T) {
	for _, empty := range [][]int{nil, {}, upTo(3)[:0], make([]int, 0, 20)} {
		checkError(t, ranks(1), 1, empty, api.ErrArg)
		checkError(t, ranks(3), 1, empty, api.ErrArg)
		checkError(t, ranks(0), 1, empty, api.ErrBad)
		checkError(t, ranks(0), 0, empty, api.ErrBad)
		blank := api.Row{Marks: empty, Many: 3}
		checkError(t, ranks(2, blank, blank), 1, []int{0, 1}, api.ErrBad)
		check(t, ranks(2, blank, row(2, 1)), 1, []int{0, 1}, untied(won("0 2 | 0", 1)))
		checkNoParts(t, nil, empty)
		checkNoParts(t, []int{0}, empty)
		if parts, rest, e := meek.Parts(empty, []int{unit, 5}); !slices.Equal(parts, []int{0, 0}) || rest != unit || e != api.OK {
			t.Errorf("the parts of a blank ballot are %v, %d, %d", parts, rest, int(e))
		}
	}
	for _, rows := range [][]api.Row{nil, {}, make([]api.Row, 0, 5), make([]api.Row, 70)[:0]} {
		check(t, ranks(2, rows...), 1, []int{1, 0}, byLot(1, []int{1, 0}))
		check(t, ranks(2, rows...), 2, []int{1, 0}, byLot(2, []int{1, 0}))
	}
}

// Of each round either Elected or Out is empty.
func TestR3WhatTheChapterDoesNotMention(t *testing.T) {
	rounds := 0
	for _, x := range calls() {
		a := x.run()
		if x.name == "Count" && a.n != 0 || x.name != "Count" && !same(a.o, api.Outcome{}) || x.name != "Parts" && a.parts != nil {
			t.Fatal("the answer has what is not its own")
		}
		for _, r := range a.o.Rounds {
			rounds++
			if (len(r.Elected) == 0) == (len(r.Out) == 0) {
				t.Errorf("%v: %v", x, a)
			}
		}
	}
	if rounds < 300 {
		t.Errorf("%d rounds", rounds)
	}
}

// R4 bears on no call of the package by itself; it does on the text of the numbers in a round: 0 without a sign, in lowest terms, and denominators only where they are not 1.
func TestR4NumbersAsText(t *testing.T) {
	for _, c := range []struct {
		p     api.Profile
		seats int
		want  []string
	}{
		{theExample(), 2, []string{"6", "1", "3", "0", "416666667/125000000", "458333333/125000000", "3", "0"}},
		{sorted(3, row(2, 0, 1), row(8, 0, 2), row(6, 1), row(4, 2)), 2, []string{"10", "6", "4", "0", "666666667/100000000", "3333333333/500000000", "833333333/125000000", "0", "666666667/100000000", "3333333333/500000000", "0", "833333333/125000000"}},
		{ranks(1), 1, []string{"0", "0"}},
		{ranks(2, row(999990), row(10, 1)), 1, []string{"0", "10", "0"}},
		{ranks(2, row(million, 0)), 2, []string{"1000000", "0", "0"}},
		{ranks(3, row(1, 1, 2)), 2, []string{"0", "1", "0", "0", "0", "166666667/500000000", "333333333/500000000", "0"}},
		{sorted(4, row(8, 0, 2), row(3, 1, 0, 3), row(4, 2), row(5, 3)), 2, []string{"8", "3", "4", "5", "0", "416666667/62500000", "3", "333333333/62500000", "5", "0", "6666666677/1000000000", "0", "893939393/125000000", "6181818179/1000000000", "0"}},
	} {
		var l []string
		for _, r := range run(t, c.p, c.seats, upTo(c.p.Cands)).Rounds {
			for _, n := range append(slices.Clone(r.Had), r.Lost) {
				s, e := ratio.Text(n)
				if e != api.OK {
					t.Errorf("%v has no text", n)
				}
				l = append(l, s)
			}
		}
		if !slices.Equal(l, c.want) {
			t.Errorf("the numbers of %s are %q; want %q", show(c.p), l, c.want)
		}
	}
}

// R5

// The lot is the order among equals, from its start where one is elected, and from its end where one is eliminated; Among and Had are in the order of the candidates.
func TestR5Order(t *testing.T) {
	for _, lot := range lots(5) {
		for seats := 1; seats <= 5; seats++ {
			check(t, ranks(5), seats, lot, byLot(seats, lot))
		}
		// As the lot has them: two level ones with more than the quota of 4.750000001, one with less, and two level ones with the least.
		p := ranks(5)
		for i, n := range []int{6, 6, 3, 2, 2} {
			p = add(p, n, lot[i])
		}
		text := func(lost string, had ...string) string { // of what they have, in the order of the lot
			l := make([]string, 5)
			for i, c := range lot {
				l[c] = had[i]
			}
			return strings.Join(l, " ") + " | " + lost
		}
		first, last := slices.Sorted(slices.Values(lot[:2])), slices.Sorted(slices.Values(lot[3:]))
		check(t, p, 3, lot, outcome(ties(tie(lot[0], first...), tie(lot[4], last...)),
			won(text("0", "6", "6", "3", "2", "2"), lot[0]),
			won(text("0", "6", "6", "3", "2", "2"), lot[1]),
			out(text("4.99755858", "3.50122071", "3.50122071", "3", "2", "2"), lot[4]),
			won(text("7.998779288", "3.000610356", "3.000610356", "3", "2", "0"), lot[2])))
	}
	// The parts are in the order of the candidates, not in that of the ballot.
	if parts, rest, e := meek.Parts([]int{2, 0, 1}, []int{unit / 2, unit / 4, unit / 5}); !slices.Equal(parts, []int{400000000, 100000000, 200000000}) || rest != 300000000 || e != api.OK {
		t.Errorf("the parts are %v, %d, %d", parts, rest, int(e))
	}
}

// R6

// Numbers are taken as they are, and not in fewer bits, nor added until they are less again.
func TestR6NothingOverflows(t *testing.T) {
	for _, size := range []int{8, 16, 20, 31, 32, 33, 62} {
		for more := range 4 {
			wide := 1<<size + more
			checkError(t, ranks(3), wide, upTo(3), api.ErrArg)
			checkError(t, ranks(3), more-1<<size, upTo(3), api.ErrArg)
			checkError(t, ranks(3), 1, []int{0, 1, wide}, api.ErrArg)
			checkError(t, ranks(3), 1, []int{more - 1<<size, 1, 2}, api.ErrArg)
			checkError(t, ranks(wide), 1, upTo(3), api.ErrBad)
			checkError(t, ranks(more-1<<size), 1, upTo(3), api.ErrBad)
			checkNoQuota(t, wide+million, 0, 1)
			checkNoQuota(t, 5, more-1<<size, 1)
			checkNoQuota(t, 5, 3, wide)
			checkNoQuota(t, 5, 3, more-1<<size)
			checkNoParts(t, []int{0, wide}, []int{5, 6, 7})
			checkNoParts(t, []int{0, more - 1<<size}, []int{5, 6, 7})
			checkNoParts(t, []int{0}, []int{5, unit + wide, 7})
			checkNoParts(t, []int{0}, []int{5, more - 1<<size, 7})
			if wide > million {
				checkError(t, ranks(1, row(wide, 0)), 1, []int{0}, api.ErrBad)
			}
		}
	}
	// Products and sums at their greatest: 10^6 ballots of 10^9 billionths each, and 10^9 times 10^15 billionths.
	check(t, ranks(2, row(million, 0, 1)), 1, []int{1, 0}, untied(won("1000000 0 | 0", 0)))
	check(t, ranks(3, row(million, 0, 1)), 2, []int{1, 0, 2}, untied(won("1000000 0 0 | 0", 0), won("333333.334 666666.666 0 | 0", 1)))
	for _, quota := range []int{0, 1, most / 2, most - 1, most} {
		checkKeep(t, unit, most, quota)
		checkKeep(t, unit-1, most, quota)
		checkKeep(t, unit, most-1, min(quota, most-1))
		checkQuota(t, million, quota, 1)
	}
	checkNoQuota(t, math.MaxInt/unit+1, 0, 1) // whose billionths are more than fit
	checkNoQuota(t, 1<<55, 0, 1)              // whose billionths would come to 0
	checkNoQuota(t, 1<<55+1, unit, 1)
}

// R7

// A panic or an endless call would fail the test by itself.
func TestR7AnyArguments(t *testing.T) {
	long := upTo(300)
	profiles := append(someProfiles(), of(math.MinInt, 255, row(math.MinInt, math.MinInt)), ranks(3, make([]api.Row, 300)...), ranks(3, row(1, long...)), of(3, 2, row(1, long...)), of(300, 3, row(1, long...)))
	for i, wild := range wilds() {
		for j, other := range wilds() {
			third := wilds()[(i*j)%len(wilds())]
			x := call{seats: other, lot: []int{wild, other, 1}, marks: []int{other, wild}, keeps: []int{5, other, wild}, votes: wild, lost: third, keep: wild, n: other, quota: third}
			if i%3 == 0 {
				x.lot = []int{2, 0, 1}
			}
			if j%5 == 0 {
				x.lot = long[:max(0, min(wild, 300))]
				x.marks, x.keeps = x.lot, long[:max(0, min(other, 300))]
			}
			for _, x.p = range []api.Profile{profiles[(i+j*7)%len(profiles)], ranks(wild), ranks(3, row(wild, 0, other, 1)), ranks(3)} {
				for _, x.operation = range operations() {
					if a, want := x.run(), x.model(x); !a.equal(want) {
						t.Errorf("%v: %v; want %v", x, a, want)
					}
				}
				x.seats = 1 + i%3
			}
		}
	}
}

func TestR7GreatArguments(t *testing.T) {
	long := upTo(1 << 18)
	for _, p := range []api.Profile{ranks(3, row(1, long...)), ranks(3, make([]api.Row, 1<<18)...), ranks(1<<18, row(1, long...)), ranks(10, slices.Repeat([]api.Row{row(1, long...)}, 64)...)} {
		checkError(t, p, 1, upTo(3), api.ErrBad)
		checkError(t, p, 1, long, api.ErrBad)
		checkError(t, p, 1<<18, long, api.ErrBad)
	}
	checkError(t, ranks(3), 1, long, api.ErrArg)
	checkNoParts(t, long, []int{5, 6, 7})
	checkNoParts(t, []int{0, 1, 2}, long)
	checkNoParts(t, long, long)
}

func TestR7RandomCalls(t *testing.T) {
	random := rand.New(rand.NewSource(1943))
	seen := map[api.Errno]int{}
	for range 5000 {
		p := anyProfile(random)
		x := call{p: p, seats: 1 + random.Intn(p.Cands), lot: random.Perm(p.Cands), votes: random.Intn(million), keep: random.Intn(unit), n: random.Intn(most), quota: random.Intn(most)}
		x.marks, x.keeps, x.lost = random.Perm(p.Cands)[:random.Intn(p.Cands+1)], randomKeeps(random, p.Cands), random.Intn(x.votes*unit+1)
		switch random.Intn(6) {
		case 0:
			x.p, x.keep, x.votes = spoilt(random, x.p), randomWild(random), randomWild(random)
		case 1:
			x.lot, x.n, x.lost, x.marks = spoiltLot(random, x.lot), randomWild(random), randomWild(random), spoiltLot(random, x.lot)
		case 2:
			x.seats, x.quota, x.keeps = randomWild(random), randomWild(random), spoiltLot(random, x.keeps)
		case 3:
			x.p, x.seats, x.lot = spoilt(random, x.p), randomWild(random), spoiltLot(random, x.lot)
			x.keep, x.n, x.quota, x.votes, x.lost = randomWild(random), randomWild(random), randomWild(random), randomWild(random), randomWild(random)
			x.marks, x.keeps = spoiltLot(random, random.Perm(p.Cands)), spoiltLot(random, x.keeps)
		}
		for _, x.operation = range operations() {
			a, want := x.run(), x.model(x)
			if !a.equal(want) {
				t.Errorf("%v: %v; want %v", x, a, want)
			}
			seen[a.e]++
		}
	}
	if seen[api.OK] < 5000 || seen[api.ErrArg] < 1000 || seen[api.ErrBad] < 1000 {
		t.Errorf("the errors are %v", seen)
	}
}
