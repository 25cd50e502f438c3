package count_test

import (
	"fmt"
	"math/rand"
	"slices"
	"testing"

	"suffrage/api"
	"suffrage/count"
)

// P22.1: Same and Twin

// change is an outcome that differs from another one in one place.
type change struct {
	name string
	o    api.Outcome
}

// listChanges returns o with a change of one list: of each element, by each of the functions, or of its length.
func listChanges[T any](o api.Outcome, name string, list func(o *api.Outcome) *[]T, turns ...func(x T) T) []change {
	var all []change
	add := func(what string, turn func(l []T) []T) {
		copied := twin(o)
		l := list(&copied)
		*l = turn(*l)
		all = append(all, change{name + " " + what, copied})
	}
	for i := range *list(&o) {
		for _, turn := range turns {
			add(fmt.Sprintf("%d is another", i), func(l []T) []T { l[i] = turn(l[i]); return l })
		}
		add(fmt.Sprintf("%d is missing", i), func(l []T) []T { return slices.Delete(l, i, i+1) })
		add(fmt.Sprintf("%d is there twice", i), func(l []T) []T { return slices.Insert(l, i, l[i]) })
	}
	var zero T
	add("has one more", func(l []T) []T { return append(l, zero) })
	add("has one before", func(l []T) []T { return slices.Insert(l, 0, zero) })
	return all
}

// intChanges is listChanges for candidates.
func intChanges(o api.Outcome, name string, list func(o *api.Outcome) *[]int) []change {
	return listChanges(o, name, list, func(c int) int { return c + 1 }, func(c int) int { return ^c }, func(c int) int { return c + 1<<8 }, func(c int) int { return c + 1<<32 }, func(c int) int { return c - 1<<62 - 1<<62 })
}

// numberChanges returns o with a change of one number.
func numberChanges(o api.Outcome, name string, at func(o *api.Outcome) *api.Ratio) []change {
	copied := twin(o)
	at(&copied).Neg = !at(&copied).Neg
	all := []change{{name + ": the sign", copied}}
	for part, limbs := range map[string]func(o *api.Outcome) *[]uint32{"Num": func(o *api.Outcome) *[]uint32 { return &at(o).Num }, "Den": func(o *api.Outcome) *[]uint32 { return &at(o).Den }} {
		all = append(all, listChanges(o, name+": "+part, limbs, func(n uint32) uint32 { return n + 1 }, func(n uint32) uint32 { return ^n }, func(n uint32) uint32 { return n + 1<<16 })...)
	}
	return all
}

// changes returns all that differ from o in one place, of a few sorts.
func changes(o api.Outcome) []change {
	all := slices.Concat(
		intChanges(o, "Elected", func(o *api.Outcome) *[]int { return &o.Elected }),
		listChanges(o, "Rounds", func(o *api.Outcome) *[]api.Round { return &o.Rounds }),
		listChanges(o, "Ties", func(o *api.Outcome) *[]api.Tie { return &o.Ties }, func(x api.Tie) api.Tie { x.Chosen++; return x }, func(x api.Tie) api.Tie { x.Chosen ^= 1 << 40; return x }, func(x api.Tie) api.Tie { x.Chosen = ^x.Chosen; return x }),
	)
	for i, r := range o.Rounds {
		in := fmt.Sprintf("round %d: ", i)
		all = append(all, intChanges(o, in+"Elected", func(o *api.Outcome) *[]int { return &o.Rounds[i].Elected })...)
		all = append(all, intChanges(o, in+"Out", func(o *api.Outcome) *[]int { return &o.Rounds[i].Out })...)
		all = append(all, listChanges(o, in+"Had", func(o *api.Outcome) *[]api.Ratio { return &o.Rounds[i].Had })...)
		all = append(all, numberChanges(o, in+"Lost", func(o *api.Outcome) *api.Ratio { return &o.Rounds[i].Lost })...)
		for j := range r.Had {
			all = append(all, numberChanges(o, fmt.Sprint(in, "Had ", j), func(o *api.Outcome) *api.Ratio { return &o.Rounds[i].Had[j] })...)
		}
	}
	for i := range o.Ties {
		all = append(all, intChanges(o, fmt.Sprintf("tie %d: Among", i), func(o *api.Outcome) *[]int { return &o.Ties[i].Among })...)
	}
	return all
}

// otherOrders are o with two things exchanged that are not alike, or moved from one field to another.
func otherOrders(o api.Outcome) []change {
	var all []change
	add := func(name string, turn func(o *api.Outcome)) {
		copied := twin(o)
		turn(&copied)
		all = append(all, change{name, copied})
	}
	add("Elected", func(o *api.Outcome) { slices.Reverse(o.Elected) })
	add("Rounds", func(o *api.Outcome) { slices.Reverse(o.Rounds) })
	add("Ties", func(o *api.Outcome) { slices.Reverse(o.Ties) })
	add("Had", func(o *api.Outcome) { slices.Reverse(o.Rounds[1].Had) })
	add("Elected of a round", func(o *api.Outcome) { slices.Reverse(o.Rounds[1].Elected) })
	add("Out", func(o *api.Outcome) { slices.Reverse(o.Rounds[2].Out) })
	add("Among", func(o *api.Outcome) { slices.Reverse(o.Ties[0].Among) })
	add("Elected and Out", func(o *api.Outcome) {
		o.Rounds[0].Elected, o.Rounds[0].Out = o.Rounds[0].Out, o.Rounds[0].Elected
	})
	add("Elected for Out", func(o *api.Outcome) { o.Rounds[0].Elected, o.Rounds[0].Out = nil, o.Rounds[0].Elected })
	add("Lost and Had", func(o *api.Outcome) { r := &o.Rounds[0]; r.Lost, r.Had[1] = r.Had[1], r.Lost })
	add("Num and Den", func(o *api.Outcome) { x := &o.Rounds[0].Lost; x.Num, x.Den = x.Den, x.Num })
	add("Num and Den of Had", func(o *api.Outcome) { x := &o.Rounds[0].Had[2]; x.Num, x.Den = x.Den, x.Num })
	add("Elected of all and of a round", func(o *api.Outcome) { o.Elected, o.Rounds[0].Elected = o.Rounds[0].Elected, o.Elected })
	return all
}

// wildOutcomes are such as no count has, and a few that some have.
func wildOutcomes() []api.Outcome {
	random := rand.New(rand.NewSource(2211))
	empty := []int{}
	all := []api.Outcome{{}, {Elected: empty, Rounds: []api.Round{}, Ties: []api.Tie{}}, {Rounds: []api.Round{{}}}, {Rounds: make([]api.Round, 3), Ties: make([]api.Tie, 2)}, {Ties: []api.Tie{{}}},
		{Elected: wilds(), Rounds: []api.Round{{Had: oddNumbers(), Lost: oddNumbers()[3], Elected: wilds(), Out: reversed(wilds())}, {Lost: oddNumbers()[10]}}, Ties: []api.Tie{tie(-5, wilds()...), tie(1<<40, reversed(wilds())...)}},
		{Rounds: []api.Round{{Had: make([]api.Ratio, 12), Elected: empty, Out: make([]int, 11)}, {Had: numbers("1 2"), Lost: api.Ratio{Num: []uint32{}, Den: []uint32{}}}}}, longOutcome()}
	for _, rule := range ruleNumbers() {
		o, _ := modelCount(rule, someBallots(3, kindOf(rule)), 1, downFrom(3))
		all = append(all, o)
	}
	for range 20 {
		all = append(all, randomOutcome(random, 1+random.Intn(12)))
	}
	return all
}

func TestP22_1SameInEveryField(t *testing.T) {
	for _, o := range wildOutcomes() {
		checkSame(t, o, o, true)
		checkSame(t, o, twin(o), true)
	}
}

func TestP22_1NotSame(t *testing.T) {
	tried := 0
	for _, o := range wildOutcomes() {
		for _, x := range changes(o) {
			tried++
			if same(x.o, o) {
				t.Fatalf("%s: %s", x.name, tell(o))
			}
			checkSame(t, o, x.o, false)
			checkSame(t, x.o, twin(x.o), true)
		}
	}
	if tried < 5000 {
		t.Errorf("%d changes", tried)
	}
}

func TestP22_1NotSameInAnotherOrder(t *testing.T) {
	for _, x := range otherOrders(longOutcome()) {
		if same(longOutcome(), x.o) {
			t.Fatal(x.name)
		}
		checkSame(t, longOutcome(), x.o, false)
	}
}

// Each field of each round, of each number and of each tie, in the first, the middle and the last element, by name.
func TestP22_1EachFieldMatters(t *testing.T) {
	differs := func(turn func(o *api.Outcome)) {
		t.Helper()
		o := longOutcome()
		turn(&o)
		checkSame(t, longOutcome(), o, false)
	}
	for i := range 3 {
		differs(func(o *api.Outcome) { o.Elected[i] = 7 })
		differs(func(o *api.Outcome) { o.Ties[i].Chosen = 7 })
		differs(func(o *api.Outcome) { o.Rounds[i].Lost = number("9/7") })
		differs(func(o *api.Outcome) { o.Rounds[i].Lost.Neg = !o.Rounds[i].Lost.Neg })
		for j := range 3 {
			differs(func(o *api.Outcome) { o.Ties[i].Among[j] = 7 })
			differs(func(o *api.Outcome) { o.Rounds[i].Elected[j] = 7 })
			differs(func(o *api.Outcome) { o.Rounds[i].Out[j] = 7 })
			differs(func(o *api.Outcome) { o.Rounds[i].Had[j] = number("9/7") })
			differs(func(o *api.Outcome) { o.Rounds[i].Had[j].Neg = !o.Rounds[i].Had[j].Neg })
			differs(func(o *api.Outcome) { o.Rounds[i].Had[j].Den = []uint32{1, 1} })
		}
	}
}

// One more of a list, though it is a beginning of the other one, and the same in another length.
func TestP22_1LengthsMatter(t *testing.T) {
	long := longOutcome()
	for n := range 3 {
		o := longOutcome()
		o.Elected = o.Elected[:n]
		checkSame(t, long, o, false)
		o = longOutcome()
		o.Rounds = o.Rounds[:n]
		checkSame(t, long, o, false)
		o = longOutcome()
		o.Ties = o.Ties[:n]
		checkSame(t, long, o, false)
		o = longOutcome()
		o.Rounds[n].Had = o.Rounds[n].Had[:n]
		checkSame(t, long, o, false)
	}
}

// Numbers that have the same value, or none, are not equal in every field.
func TestP22_1NumbersThatAreNotInLowestTerms(t *testing.T) {
	one := []uint32{1}
	numbers := append(oddNumbers(), number("1/2"), number("1"), number("0"), number("-1"), api.Ratio{Num: []uint32{1, 0}, Den: []uint32{2}}, api.Ratio{Num: one, Den: []uint32{2, 0}}, api.Ratio{Num: []uint32{0, 0}, Den: one}, api.Ratio{Neg: true, Num: []uint32{0}, Den: one}, api.Ratio{Num: []uint32{5}, Den: []uint32{5}})
	for i, x := range numbers {
		for j, y := range numbers {
			want := i == j || i == 0 && j == 3 || i == 3 && j == 0 // nil and empty limbs
			checkSame(t, api.Outcome{Rounds: []api.Round{{Lost: x}}}, api.Outcome{Rounds: []api.Round{{Lost: y}}}, want)
			checkSame(t, api.Outcome{Rounds: []api.Round{{Had: []api.Ratio{number("3"), x}}}}, api.Outcome{Rounds: []api.Round{{Had: []api.Ratio{number("3"), y}}}}, want)
		}
	}
}

func TestP22_1OutcomesOfCounts(t *testing.T) {
	random := rand.New(rand.NewSource(2212))
	equal, different := 0, 0
	for range 2000 {
		rule := uint8(1 + random.Intn(16))
		p := randomProfile(random, 3, kindOf(rule))
		seats := 1 + random.Intn(mostSeats(rule, 3))
		lot, other := random.Perm(3), random.Perm(3)
		a, b := run(t, contestOf(rule, 3, seats), p, lot), run(t, contestOf(rule, 3, seats), p, other)
		checkSame(t, a, b, same(a, b))
		if same(a, b) {
			equal++
		} else {
			different++
		}
	}
	if equal < 500 || different < 200 {
		t.Errorf("%d are equal, and %d are not", equal, different)
	}
}

// Twin

func TestP22_1Twins(t *testing.T) {
	for _, o := range wildOutcomes() {
		checkTwin(t, o)
		if !count.Same(count.Twin(o), o) || !count.Same(o, count.Twin(count.Twin(o))) {
			t.Errorf("%s is not the same as its twin", tell(o))
		}
	}
}

func TestP22_1TwinsOfChanges(t *testing.T) {
	for _, o := range wildOutcomes() {
		for _, x := range changes(o) {
			checkTwin(t, x.o)
		}
	}
}

// What becomes of an outcome does not matter to its twin, nor the other way round.
func TestP22_1TwinsHaveMemoryOfTheirOwn(t *testing.T) {
	for _, o := range wildOutcomes() {
		o, want := twin(o), twin(o)
		n := count.Twin(o)
		scribble(n)
		if !same(o, want) {
			t.Errorf("%s becomes %s with its twin", tell(want), tell(o))
		}
		n = count.Twin(o)
		scribble(o)
		if !same(n, want) {
			t.Errorf("the twin of %s becomes %s", tell(want), tell(n))
		}
	}
}
