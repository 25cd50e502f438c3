package lists_test

import (
	"fmt"
	"math"
	"math/rand"
	"runtime"
	"slices"
	"sync"
	"testing"
	"unsafe"

	"suffrage/api"
	"suffrage/lists"
	"suffrage/profile"
	"suffrage/ratio"
)

// call is a call with its arguments.
type call struct {
	m     method
	p     api.Profile
	seats int
	lot   []int
}

func (x call) do() (api.Outcome, api.Errno) { return x.m.do(x.p, x.seats, x.lot) }

func (x call) String() string {
	return fmt.Sprintf("%s of %s, %d seats, lot %v", x.m.name, show(x.p), x.seats, x.lot)
}

func roomyInts(l []int) []int { return append(slices.Clone(l), 1, 0, 7, -1, 1000)[:len(l)] }

// roomy returns p in memory of its own, with rows behind its length, and numbers behind those of the marks.
func roomy(p api.Profile) api.Profile {
	var rows []api.Row
	for _, r := range slices.Concat(p.Rows, []api.Row{row(3), row(1, 0), row(-7, 5, 5)}) {
		rows = append(rows, api.Row{Marks: roomyInts(r.Marks), Many: r.Many})
	}
	p.Rows = rows[:len(p.Rows)]
	return p
}

// someProfiles are valid ones, mostly of marks, and others that are not.
func someProfiles() []api.Profile {
	random := rand.New(rand.NewSource(2031))
	l := []api.Profile{voting(53, 24, 23), fullProfile(2), unevenProfile(), fullProfile(1), fullProfile(3), of(3, 1, row(1, 2, 0)), of(3, 3), of(3, 0), of(3, 4), {}}
	for cands := 1; cands <= 10; cands++ {
		l = append(l, of(cands, 2), of(cands, 2, row(3)), of(cands, 2, row(5, upTo(cands)...)), randomProfile(random, cands), randomProfile(random, cands), levelProfile(random, cands), levelProfile(random, cands))
	}
	for _, e := range []api.Errno{api.ErrFull, api.ErrBad, api.ErrMany} {
		l = append(l, wrongProfiles()[e][:3]...)
	}
	return l
}

// calls returns calls of each function, right and wrong, with lists that have room behind them.
func calls() []call {
	random := rand.New(rand.NewSource(2032))
	var all []call
	for _, p := range someProfiles() {
		for _, m := range methods() {
			cands := min(max(p.Cands, 1), 10)
			for _, seats := range []int{1, cands, 1 + random.Intn(10), 10, 11, 0} {
				lot := random.Perm(cands)
				if random.Intn(5) == 0 {
					lot = spoiltLot(random, lot)
				}
				all = append(all, call{m, roomy(p), seats, roomyInts(lot)})
			}
		}
	}
	return all
}

func TestCallsHaveTheModelsOutcomes(t *testing.T) {
	seen := map[string]map[api.Errno]int{}
	for _, m := range methods() {
		seen[m.name] = map[api.Errno]int{}
	}
	for _, x := range calls() {
		_, e := x.m.checkModel(t, x.p, x.seats, x.lot)
		seen[x.m.name][e]++
	}
	for _, m := range methods() {
		for _, e := range []api.Errno{api.OK, api.ErrArg, api.ErrBad} {
			if seen[m.name][e] < 30 {
				t.Errorf("the calls of %s have the errors %v", m.name, seen[m.name])
			}
		}
	}
}

// R1

func TestR1ErrorsComeInOrder(t *testing.T) {
	var wrong []api.Profile
	for _, l := range wrongProfiles() {
		wrong = append(wrong, l...)
	}
	right, lot := of(2, 2), []int{0, 1}
	for _, m := range methods() {
		for _, p := range append(wrong, of(2, 1), of(2, 3), of(2, 0), of(2, 255)) {
			if p.Kind == 2 && profile.Check(p) == api.OK {
				t.Fatal("not wrong")
			}
			m.checkError(t, p, 1, lot, api.ErrBad)
			for _, seats := range []int{-1, 0, 11, math.MinInt, math.MaxInt} {
				m.checkError(t, p, seats, lot, api.ErrBad)
				m.checkError(t, p, seats, nil, api.ErrBad)
				m.checkError(t, right, seats, lot, api.ErrArg)
				m.checkError(t, right, seats, nil, api.ErrArg)
			}
			for _, l := range wrongLots(2) {
				m.checkError(t, p, 1, l, api.ErrBad)
				m.checkError(t, right, 1, l, api.ErrArg)
			}
		}
	}
}

// The numbers of the errors are those of the document.
func TestR1ErrorNumbers(t *testing.T) {
	for _, do := range []func(api.Profile, int, []int) (api.Outcome, api.Errno){lists.DHondt, lists.Sainte, lists.Hare} {
		_, bad := do(of(0, 2), 0, nil)
		_, arg := do(of(1, 2), 11, []int{0})
		_, ok := do(of(1, 2), 10, []int{0})
		if numbers := []int{int(bad), int(arg), int(ok)}; !slices.Equal(numbers, []int{8, 2, 0}) {
			t.Errorf("the errors are %v", numbers)
		}
	}
}

func TestR1NothingBesideAnError(t *testing.T) {
	failed := 0
	for _, x := range calls() {
		if o, e := x.do(); e != api.OK {
			failed++
			if o.Elected != nil || o.Rounds != nil || o.Ties != nil {
				t.Errorf("%v: %v beside error %d", x, o, int(e))
			}
		}
	}
	if failed < 500 {
		t.Errorf("%d calls fail", failed)
	}
}

// R2

// memory returns a text of all that the arguments hold, up to the capacities.
func (x call) memory() string {
	s := fmt.Sprint(x.p.Cands, x.p.Kind, len(x.p.Rows), x.seats, len(x.lot), x.lot[:cap(x.lot)])
	for _, r := range x.p.Rows[:cap(x.p.Rows)] {
		s += fmt.Sprint(len(r.Marks), r.Marks[:cap(r.Marks)], r.Many)
	}
	return s
}

func scribbleInts(l []int) {
	for i := range l[:cap(l)] {
		l[:cap(l)][i] ^= 0x5a5
	}
}

// scribble overwrites the memory of all arguments.
func (x call) scribble() {
	scribbleInts(x.lot)
	for i, r := range x.p.Rows[:cap(x.p.Rows)] {
		scribbleInts(r.Marks)
		x.p.Rows[:cap(x.p.Rows)][i] = row(r.Many^0x5a5, 99)
	}
}

func scribbleNumber(x *api.Ratio) {
	for _, limbs := range [][]uint32{x.Num[:cap(x.Num)], x.Den[:cap(x.Den)]} {
		for i := range limbs {
			limbs[i] ^= 0x5a5
		}
	}
	x.Neg = !x.Neg
}

// scribbleOutcome overwrites the memory of an answer, up to the capacities.
func scribbleOutcome(o api.Outcome) {
	scribbleInts(o.Elected)
	for i := range o.Rounds[:cap(o.Rounds)] {
		r := &o.Rounds[:cap(o.Rounds)][i]
		scribbleInts(r.Elected)
		scribbleInts(r.Out)
		scribbleNumber(&r.Lost)
		for j := range r.Had[:cap(r.Had)] {
			scribbleNumber(&r.Had[:cap(r.Had)][j])
		}
	}
	for i := range o.Ties[:cap(o.Ties)] {
		scribbleInts(o.Ties[:cap(o.Ties)][i].Among)
		o.Ties[:cap(o.Ties)][i].Chosen ^= 0x5a5
	}
}

func TestR2ArgumentsStay(t *testing.T) {
	for _, x := range calls() {
		before := x.memory()
		x.do()
		if x.memory() != before {
			t.Errorf("%v: the memory of an argument changes", x)
		}
	}
}

func TestR2AnswersShareNothingWithArguments(t *testing.T) {
	ties := 0
	for _, x := range calls() {
		before := x.memory()
		o, _ := x.do()
		want := twin(o)
		scribbleOutcome(o)
		if x.memory() != before {
			t.Errorf("%v: an argument changes with the answer", x)
		}
		o, _ = x.do()
		x.scribble()
		if !same(o, want) {
			t.Errorf("the answer changes with the arguments: %v; want %v", o, want)
		}
		ties += len(o.Ties)
	}
	if ties < 100 {
		t.Errorf("the answers have %d ties", ties)
	}
}

// span is a piece of memory.
type span struct {
	name       string
	start, end uintptr
}

func spanOf[T any](name string, l []T) span {
	var one T
	start := uintptr(unsafe.Pointer(unsafe.SliceData(l)))
	return span{name, start, start + uintptr(cap(l))*unsafe.Sizeof(one)}
}

// spans returns the memory of each list of an outcome, up to its capacity.
func spans(o api.Outcome) []span {
	l := []span{spanOf("Elected", o.Elected), spanOf("Rounds", o.Rounds), spanOf("Ties", o.Ties)}
	for _, r := range o.Rounds {
		l = append(l, spanOf("Elected of the round", r.Elected), spanOf("Out", r.Out), spanOf("Had", r.Had), spanOf("Num of Lost", r.Lost.Num), spanOf("Den of Lost", r.Lost.Den))
		for _, n := range r.Had {
			l = append(l, spanOf("Num", n.Num), spanOf("Den", n.Den))
		}
	}
	for _, x := range o.Ties {
		l = append(l, spanOf("Among", x.Among))
	}
	return slices.DeleteFunc(l, func(s span) bool { return s.start == s.end })
}

// The lists of an answer, and of all answers, have each its own memory.
func TestR2PartsOfAnswersShareNothing(t *testing.T) {
	var all []api.Outcome
	var memory []span
	for _, x := range calls() {
		o, _ := x.do()
		all = append(all, o)
		memory = append(memory, spans(o)...)
	}
	slices.SortFunc(memory, func(s, o span) int { return int(s.start) - int(o.start) })
	for i := 1; i < len(memory); i++ {
		if memory[i].start < memory[i-1].end {
			t.Errorf("%s and %s share memory", memory[i-1].name, memory[i].name)
		}
	}
	if len(memory) < 3000 {
		t.Errorf("the answers have %d lists", len(memory))
	}
	runtime.KeepAlive(all)
}

// To append to a list of an answer changes no other one of it.
func TestR2AppendingToAnAnswer(t *testing.T) {
	for _, x := range calls() {
		o, e := x.do()
		if e != api.OK {
			continue
		}
		want := twin(o)
		_ = append(o.Elected, 77)
		_ = append(o.Ties, tie(77, 77))
		_ = append(o.Rounds, api.Round{Out: []int{77}})
		_ = append(o.Rounds[0].Elected, 77)
		_ = append(o.Rounds[0].Had, ratio.Whole(77))
		for _, n := range append(slices.Clone(o.Rounds[0].Had), o.Rounds[0].Lost) {
			_, _ = append(n.Num, 77), append(n.Den, 77)
		}
		for _, d := range o.Ties {
			_ = append(d.Among, 77)
		}
		if !same(o, want) {
			t.Errorf("%v: %v; want %v", x, o, want)
		}
	}
}

// A second answer depends neither on the first, nor on what became of it, nor on calls between.
func TestR2NothingIsKept(t *testing.T) {
	others := calls()
	for i, x := range calls() {
		first, firstE := x.do()
		want := twin(first)
		scribbleOutcome(first)
		for j := i % 97; j < len(others); j += 97 {
			others[j].do()
		}
		if again, e := x.do(); !same(again, want) || e != firstE {
			t.Errorf("%v: the second answer is %v, %d; want %v, %d", x, again, int(e), want, int(firstE))
		}
	}
}

// Calls at the same time do not disturb each other, also with the same arguments.
func TestR2CallsAtTheSameTime(t *testing.T) {
	all := calls()
	var joined sync.WaitGroup
	for range 4 {
		joined.Go(func() {
			for _, x := range all {
				o, e := x.do()
				if want, wantE := x.m.model(x.p, x.seats, x.lot); !same(o, want) || e != wantE {
					t.Errorf("%v: %v, %d; want %v, %d", x, o, int(e), want, int(wantE))
				}
			}
		})
	}
	joined.Wait()
}

// The rows may share their memory with each other, and with the lot.
func TestR2OneMemory(t *testing.T) {
	l := []int{0, 1, 2, 1}
	p := of(3, 2, api.Row{Marks: l[:0], Many: 1}, api.Row{Marks: l[:1], Many: 2}, api.Row{Marks: l[:2], Many: 3}, api.Row{Marks: l[1:2], Many: 4}, api.Row{Marks: l[1:3], Many: 5}, api.Row{Marks: l[2:3], Many: 2})
	dhondt().check(t, p, 2, l[:3], outcome([]int{2, 4, 2}, 9, []int{1, 0}, tie(0, 0, 1, 2)))
	sainte().check(t, p, 2, l[:3], outcome([]int{2, 4, 2}, 9, []int{1, 0}, tie(0, 0, 2)))
	hare().check(t, p, 3, l[:3], outcome([]int{2, 4, 2}, 9, []int{1, 0, 2}, tie(0, 0, 2)))
	for _, m := range methods() {
		m.checkError(t, p, 1, l, api.ErrArg)
	}
	if !slices.Equal(l, []int{0, 1, 2, 1}) {
		t.Errorf("the arguments become %v", l)
	}
}

// R3

func TestR3NilAndEmptyAreEqual(t *testing.T) {
	for _, none := range [][]int{nil, {}, upTo(3)[:0], make([]int, 0, 20)} {
		blank := api.Row{Marks: none, Many: 3}
		for _, m := range methods() {
			m.checkError(t, of(1, 2), 1, none, api.ErrArg)
			m.checkError(t, of(3, 2), 1, none, api.ErrArg)
			m.checkError(t, of(0, 2), 1, none, api.ErrBad)
			m.checkError(t, of(0, 2), 0, none, api.ErrBad)
			m.checkError(t, of(2, 2, blank, blank), 1, []int{0, 1}, api.ErrBad)
			m.check(t, of(2, 2, blank, row(2, 1)), 1, []int{0, 1}, outcome([]int{0, 2}, 3, []int{1}))
			m.check(t, of(2, 2, blank), 1, []int{0, 1}, outcome([]int{0, 0}, 3, []int{0}, tie(0, 0, 1)))
		}
	}
	for _, rows := range [][]api.Row{nil, {}, make([]api.Row, 0, 5), make([]api.Row, 70)[:0]} {
		for _, m := range methods() {
			m.check(t, of(2, 2, rows...), 1, []int{1, 0}, outcome([]int{0, 0}, 0, []int{1}, tie(1, 0, 1)))
		}
	}
}

// Nobody is out, and there are no ties unless parties are tied.
func TestR3WhatTheChapterDoesNotMention(t *testing.T) {
	for _, x := range calls() {
		o, e := x.do()
		if e != api.OK {
			continue
		}
		if len(o.Rounds) != 1 || len(o.Rounds[0].Out) != 0 {
			t.Errorf("%v: %v", x, o)
		}
		if x.p.Cands == 1 && len(o.Ties) != 0 {
			t.Errorf("%v: %v", x, o.Ties)
		}
	}
}

// R4 bears on no call of the package by itself; it does on the text of the numbers in a round: 0 without a sign, and whole numbers without a denominator.
func TestR4NumbersAsText(t *testing.T) {
	for _, m := range methods() {
		o := m.run(t, of(4, 2, row(11), row(1, 0, 1), row(million-13, 1), row(1, 3)), 3, upTo(4))
		var l []string
		for _, n := range append(o.Rounds[0].Had, o.Rounds[0].Lost) {
			s, e := ratio.Text(n)
			if e != api.OK {
				t.Errorf("%v has no text", n)
			}
			l = append(l, s)
		}
		if !slices.Equal(l, []string{"0", "999987", "0", "1", "12"}) {
			t.Errorf("the numbers are %v", l)
		}
	}
}

// R5

// The lot is the order among equals; Among and Had are in the order of the parties, the seats of Hare's first step too, and the ties in that of the seats.
func TestR5Order(t *testing.T) {
	votes := []int{6, 3, 6, 3, 6}
	for _, lot := range lots(5) {
		even := slices.DeleteFunc(slices.Clone(lot), func(party int) bool { return party%2 > 0 })
		odd := slices.DeleteFunc(slices.Clone(lot), func(party int) bool { return party%2 == 0 })
		elected, l := inTurns(5, lot)
		for _, m := range divisorMethods() {
			m.check(t, voting(votes...), 3, lot, outcome(votes, 0, even, tie(even[0], 0, 2, 4), tie(even[1], inOrder(even[1:])...)))
			m.check(t, voting(4, 4, 4, 4, 4), 5, lot, outcome([]int{4, 4, 4, 4, 4}, 0, elected, l...))
		}
		hare().check(t, voting(votes...), 5, lot, outcome(votes, 0, append([]int{0, 2, 4}, odd...), tie(odd[0], 1, 3)))
		hare().check(t, of(5, 2), 5, lot, outcome(make([]int, 5), 0, elected, l...))
	}
}

// R6

// Numbers are taken as they are, and not in fewer bits, nor added or multiplied until they are less again.
func TestR6NothingOverflows(t *testing.T) {
	for _, m := range methods() {
		p := of(3, 2)
		for _, size := range []int{8, 16, 20, 31, 32, 33, 62} {
			for more := range 4 {
				wide := 1<<size + more
				m.checkError(t, p, wide, upTo(3), api.ErrArg)
				m.checkError(t, p, more-1<<size, upTo(3), api.ErrArg)
				m.checkError(t, p, 1, []int{0, 1, wide}, api.ErrArg)
				m.checkError(t, p, 1, []int{more - 1<<size, 1, 2}, api.ErrArg)
				m.checkError(t, of(wide, 2), 1, upTo(3), api.ErrBad)
				m.checkError(t, of(more-1<<size, 2), 1, upTo(3), api.ErrBad)
				if wide > million {
					m.checkError(t, of(1, 2, row(wide, 0)), 1, []int{0}, api.ErrBad)
				}
			}
		}
		// The greatest numbers: all ballots for one party, times the greatest divisor, or times the seats.
		m.check(t, voting(million, 0), 10, []int{1, 0}, outcome([]int{million, 0}, 0, make([]int, 10)))
		m.check(t, voting(0, million), 10, []int{0, 1}, outcome([]int{0, million}, 0, slices.Repeat([]int{1}, 10)))
	}
	dhondt().check(t, voting(909090, 90909), 10, []int{0, 1}, outcome([]int{909090, 90909}, 0, make([]int, 10), tie(0, 0, 1)))
	sainte().check(t, voting(950000, 50000), 10, []int{0, 1}, outcome([]int{950000, 50000}, 0, make([]int, 10), tie(0, 0, 1)))
	hare().check(t, voting(950000, 50000), 10, []int{0, 1}, outcome([]int{950000, 50000}, 0, make([]int, 10), tie(0, 0, 1)))
}

// R7

// A panic or an endless call would fail the test by itself.
func TestR7AnyArguments(t *testing.T) {
	long := upTo(300)
	profiles := append(someProfiles(), of(math.MinInt, 255, row(math.MinInt, math.MinInt)), of(3, 2, make([]api.Row, 300)...), of(3, 1, row(1, long...)), of(3, 2, row(1, long...)), of(300, 3, row(1, long...)))
	for i, wild := range wilds() {
		for j, other := range wilds() {
			lot := []int{wild, other, 1}
			if j%3 == 0 {
				lot = long[:max(0, min(wild, 300))]
			}
			for _, m := range methods() {
				m.checkModel(t, profiles[(i+j*7)%len(profiles)], other, lot)
				m.checkModel(t, of(wild, 2), other, lot)
				m.checkModel(t, of(3, 2, row(wild, 0, other, 1)), 1, upTo(3))
				m.checkModel(t, of(3, 2, row(wild, 0)), 1, upTo(3))
				m.checkModel(t, of(3, 2), 1+j%10, lot)
				m.checkModel(t, of(3, 2), wild, upTo(3))
			}
		}
	}
}

func TestR7GreatArguments(t *testing.T) {
	long := upTo(1 << 18)
	for _, m := range methods() {
		m.checkError(t, of(3, 2, row(1, long...)), 1, upTo(3), api.ErrBad)
		m.checkError(t, of(3, 2, make([]api.Row, 1<<18)...), 1, upTo(3), api.ErrBad)
		m.checkError(t, of(1<<18, 2, row(1, long...)), 10, long, api.ErrBad)
		m.checkError(t, of(10, 2, slices.Repeat([]api.Row{row(1, long...)}, 64)...), 1, upTo(10), api.ErrBad)
		m.checkError(t, of(3, 2), 1, long, api.ErrArg)
	}
}

func TestR7RandomCalls(t *testing.T) {
	random := rand.New(rand.NewSource(2033))
	seen := map[api.Errno]int{}
	for range 5000 {
		p := anyProfile(random)
		seats, lot := 1+random.Intn(10), random.Perm(p.Cands)
		switch random.Intn(6) {
		case 0:
			p = spoilt(random, p)
		case 1:
			lot = spoiltLot(random, lot)
		case 2:
			seats = randomWild(random)
		case 3:
			p, seats, lot = spoilt(random, p), randomWild(random), spoiltLot(random, lot)
		}
		for _, m := range methods() {
			_, e := m.checkModel(t, p, seats, lot)
			seen[e]++
		}
	}
	if seen[api.OK] < 3000 || seen[api.ErrArg] < 2000 || seen[api.ErrBad] < 2000 {
		t.Errorf("the errors are %v", seen)
	}
}
