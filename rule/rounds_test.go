package rule_test

import (
	"slices"
	"testing"

	"suffrage/api"
	"suffrage/rule"
)

// after returns the state after these candidates have been eliminated, in this order.
func after(lot []int, out ...int) rule.Rounds {
	r := rule.NewRounds(lot)
	for _, c := range out {
		r.Eliminate(rule.Round(make([]int, len(lot)), 0), []int{c})
	}
	return r
}

func TestLeft(t *testing.T) {
	lot := []int{2, 0, 3, 1}
	for _, c := range []struct {
		out  []int
		want []bool
	}{
		{nil, []bool{true, true, true, true}},
		{[]int{2}, []bool{true, true, false, true}},
		{[]int{2, 0}, []bool{false, true, false, true}},
		{[]int{3, 0, 1}, []bool{false, false, true, false}},
	} {
		r := after(lot, c.out...)
		if left := r.Left(); !slices.Equal(left, c.want) {
			t.Errorf("after %v are out, %v are left", c.out, left)
		}
		r.Left()[2] = !c.want[2] // which is not the state's
		if left := r.Left(); !slices.Equal(left, c.want) {
			t.Errorf("after %v are out, and a change, %v are left", c.out, left)
		}
	}
	one := after([]int{0})
	if left := one.Left(); !slices.Equal(left, []bool{true}) {
		t.Errorf("of one candidate, %v is left", left)
	}
}

func TestCandidates(t *testing.T) {
	lot := []int{2, 0, 3, 1}
	for _, c := range []struct{ out, want []int }{
		{nil, []int{0, 1, 2, 3}},
		{[]int{2}, []int{0, 1, 3}},
		{[]int{3, 0}, []int{1, 2}},
		{[]int{1, 3, 0}, []int{2}},
	} {
		r := after(lot, c.out...)
		l := r.Candidates()
		if !slices.Equal(l, c.want) {
			t.Errorf("after %v are out, the candidates are %v", c.out, l)
		}
		l[0] = 7 // which is not the state's
		_ = append(l[:0], 8)
		if l := r.Candidates(); !slices.Equal(l, c.want) {
			t.Errorf("after %v are out, and a change, the candidates are %v", c.out, l)
		}
	}
	r := rule.NewRounds(lot)
	r.Elect(rule.Round(make([]int, 4), 0), []int{0, 3})
	if l := r.Candidates(); !slices.Equal(l, []int{1, 2, 3}) {
		t.Errorf("after 0 is elected, the candidates are %v", l)
	}
	r.ElectAll(rule.Round(make([]int, 4), 0), make([]int, 4))
	if l := r.Candidates(); len(l) > 0 {
		t.Errorf("after all are elected, the candidates are %v", l)
	}
}

func checkWinner(t *testing.T, r rule.Rounds, had []int, want int, wantOK bool) {
	t.Helper()
	if c, ok := r.Winner(had); c != want || ok != wantOK {
		t.Errorf("with %v ballots, the winner is %d, %v; want %d, %v", had, c, ok, want, wantOK)
	}
}

func TestWinner(t *testing.T) {
	all := after([]int{2, 0, 1})
	checkWinner(t, all, []int{0, 0, 0}, 0, false)
	checkWinner(t, all, []int{5, 3, 2}, 0, false)
	checkWinner(t, all, []int{6, 3, 2}, 0, true)
	checkWinner(t, all, []int{2, 3, 6}, 2, true)
	checkWinner(t, all, []int{3, 5, 3}, 0, false)
	checkWinner(t, all, []int{0, 1, 0}, 1, true)
	checkWinner(t, all, []int{499999, 1, 500000}, 0, false)
	two := after([]int{2, 0, 1}, 1)
	checkWinner(t, two, []int{0, 0, 0}, 0, false)
	checkWinner(t, two, []int{7, 0, 7}, 0, false)
	checkWinner(t, two, []int{7, 0, 8}, 2, true)
	checkWinner(t, after([]int{2, 0, 1}, 0, 2), []int{0, 0, 0}, 1, true)
	checkWinner(t, after([]int{2, 0, 1}, 0, 2), []int{0, 9, 0}, 1, true)
	checkWinner(t, after([]int{0}), []int{0}, 0, true)
}

func checkLeast(t *testing.T, r rule.Rounds, numbers []int, want ...int) {
	t.Helper()
	given := slices.Clone(numbers)
	if l := r.Least(numbers); !slices.Equal(l, want) || !slices.Equal(numbers, given) {
		t.Errorf("the least of %v is that of %v; want %v", given, l, want)
	}
}

func TestLeast(t *testing.T) {
	all := after([]int{1, 3, 2, 0})
	checkLeast(t, all, []int{4, 3, 2, 1}, 3)
	checkLeast(t, all, []int{1, 3, 2, 4}, 0)
	checkLeast(t, all, []int{2, 1, 1, 4}, 1, 2)
	checkLeast(t, all, []int{1, 3, 1, 1}, 0, 2, 3)
	checkLeast(t, all, []int{0, 0, 0, 0}, 0, 1, 2, 3)
	checkLeast(t, all, []int{-1, -2, 0, -2}, 1, 3)
	all.Least([]int{0, 0, 0, 0})[0] = 3 // which is not the state's
	checkLeast(t, all, []int{5, 5, 5, 5}, 0, 1, 2, 3)
	some := after([]int{1, 3, 2, 0}, 0, 2)
	checkLeast(t, some, []int{0, 4, 0, 5}, 1)
	checkLeast(t, some, []int{0, 4, 0, 4}, 1, 3)
	checkLeast(t, some, []int{9, 4, 9, 3}, 3)
	checkLeast(t, after([]int{1, 3, 2, 0}, 0, 3, 1), []int{1, 2, 5, 3}, 2)
}

func checkMost(t *testing.T, r rule.Rounds, numbers []int, want ...int) {
	t.Helper()
	given := slices.Clone(numbers)
	if l := r.Most(numbers); !slices.Equal(l, want) || !slices.Equal(numbers, given) {
		t.Errorf("the most of %v is that of %v; want %v", given, l, want)
	}
}

func TestMost(t *testing.T) {
	all := after([]int{1, 3, 2, 0})
	checkMost(t, all, []int{1, 2, 3, 4}, 3)
	checkMost(t, all, []int{4, 2, 3, 1}, 0)
	checkMost(t, all, []int{3, 4, 4, 1}, 1, 2)
	checkMost(t, all, []int{4, 3, 4, 4}, 0, 2, 3)
	checkMost(t, all, []int{0, 0, 0, 0}, 0, 1, 2, 3)
	checkMost(t, all, []int{-2, -1, -3, -1}, 1, 3)
	all.Most([]int{0, 0, 0, 0})[0] = 3 // which is not the state's
	checkMost(t, all, []int{5, 5, 5, 5}, 0, 1, 2, 3)
	some := after([]int{1, 3, 2, 0}, 0, 2)
	checkMost(t, some, []int{9, 4, 9, 5}, 3)
	checkMost(t, some, []int{9, 4, 9, 4}, 1, 3)
	checkMost(t, some, []int{0, 4, 0, 3}, 1)
	checkMost(t, after([]int{1, 3, 2, 0}, 0, 3, 1), []int{9, 9, 5, 9}, 2)
}

func TestRemaining(t *testing.T) {
	lot := []int{2, 0, 3, 1}
	for gone := range lot {
		r := after(lot, lot[:gone]...)
		if n := r.Remaining(); n != len(lot)-gone {
			t.Errorf("after %v are out, %d remain", lot[:gone], n)
		}
	}
	r := after(lot)
	r.Elect(rule.Round(make([]int, 4), 0), []int{0, 3})
	if n := r.Remaining(); n != 3 || !slices.Equal(r.Left(), []bool{false, true, true, true}) {
		t.Errorf("after 0 is elected, %d remain: %v", n, r.Left())
	}
	r.ElectAll(rule.Round(make([]int, 4), 0), make([]int, 4))
	if n := r.Remaining(); n != 0 || slices.Contains(r.Left(), true) {
		t.Errorf("after all are elected, %d remain: %v", n, r.Left())
	}
}

// checkRound wants digits of what the candidates had and of what was lost, and who was elected and eliminated.
func checkRound(t *testing.T, round api.Round, digits string, elected, out []int) {
	t.Helper()
	text := ""
	for _, n := range append(slices.Clone(round.Had), round.Lost) {
		text += textOf(n)
	}
	if text != digits || !slices.Equal(round.Elected, elected) || !slices.Equal(round.Out, out) {
		t.Errorf("the round is %v; want %s, %v, %v", round, digits, elected, out)
	}
}

func checkTies(t *testing.T, ties []api.Tie, want ...api.Tie) {
	t.Helper()
	if !slices.EqualFunc(ties, want, func(x, y api.Tie) bool { return slices.Equal(x.Among, y.Among) && x.Chosen == y.Chosen }) {
		t.Errorf("the ties are %v; want %v", ties, want)
	}
}

// A whole count: the rounds and the ties come in order, and the one that comes last in the lot is out.
func TestRoundsOfACount(t *testing.T) {
	lot := []int{2, 0, 3, 1}
	given := slices.Clone(lot)
	r := rule.NewRounds(lot)
	among := []int{0, 1, 2, 9}[:3]
	outs := []int{
		r.Eliminate(rule.Round([]int{1, 1, 1, 4}, 5), among),
		r.Eliminate(rule.Round([]int{2, 0, 1, 4}, 6), []int{2}),
		r.Eliminate(rule.Round([]int{4, 0, 0, 4}, 7), []int{0, 3}),
	}
	if winner := r.Elect(rule.Round([]int{8, 0, 0, 0}, 8), []int{0}); winner != 0 || !slices.Equal(outs, []int{1, 2, 3}) {
		t.Errorf("%v are out, and %d wins", outs, winner)
	}
	o := r.Outcome()
	if !slices.Equal(o.Elected, []int{0}) || len(o.Rounds) != 4 {
		t.Fatalf("the outcome is %v", o)
	}
	checkRound(t, o.Rounds[0], "11145", nil, []int{1})
	checkRound(t, o.Rounds[1], "20146", nil, []int{2})
	checkRound(t, o.Rounds[2], "40047", nil, []int{3})
	checkRound(t, o.Rounds[3], "80008", []int{0}, nil)
	checkTies(t, o.Ties, api.Tie{Among: []int{0, 1, 2}, Chosen: 1}, api.Tie{Among: []int{0, 3}, Chosen: 3})
	o.Elected[0], o.Ties[0].Among[0] = 7, 7 // which are neither the round's nor an argument's
	if o.Rounds[3].Elected[0] != 0 || among[0] != 0 || among[:4][3] != 9 || !slices.Equal(lot, given) {
		t.Errorf("the memory of the outcome is shared: %v, %v, %v", o, among, lot)
	}
}

// A count that elects several: the one that comes first in the lot is elected, of those with the greatest number where all are.
func TestRoundsThatElectSeveral(t *testing.T) {
	lot := []int{4, 2, 5, 0, 3, 1}
	given := slices.Clone(lot)
	r := rule.NewRounds(lot)
	among := []int{0, 3, 5, 9}[:3]
	winners := []int{r.Elect(rule.Round([]int{6, 1, 2, 6, 1, 6}, 5), among), r.Elect(rule.Round([]int{7, 2, 2, 3, 3, 4}, 6), []int{0})}
	r.Eliminate(rule.Round([]int{4, 1, 2, 3, 3, 4}, 7), []int{1})
	numbers := []int{9, 9, 2, 3, 3, 9}
	r.ElectAll(rule.Round([]int{4, 0, 2, 3, 3, 4}, 8), numbers)
	o := r.Outcome()
	if !slices.Equal(winners, []int{5, 0}) || !slices.Equal(o.Elected, []int{5, 0, 4, 3, 2}) || len(o.Rounds) != 4 || !slices.Equal(numbers, []int{9, 9, 2, 3, 3, 9}) {
		t.Fatalf("the winners are %v, and the outcome is %v", winners, o)
	}
	checkRound(t, o.Rounds[0], "6126165", []int{5}, nil)
	checkRound(t, o.Rounds[1], "7223346", []int{0}, nil)
	checkRound(t, o.Rounds[2], "4123347", nil, []int{1})
	checkRound(t, o.Rounds[3], "4023348", []int{4, 3, 2}, nil)
	checkTies(t, o.Ties, api.Tie{Among: []int{0, 3, 5}, Chosen: 5}, api.Tie{Among: []int{3, 4}, Chosen: 4})
	o.Rounds[3].Elected[0], o.Rounds[0].Elected[0], o.Ties[0].Among[0] = 7, 7, 7 // which are neither the outcome's nor an argument's
	if !slices.Equal(o.Elected, []int{5, 0, 4, 3, 2}) || among[0] != 0 || among[:4][3] != 9 || !slices.Equal(lot, given) {
		t.Errorf("the memory of the outcome is shared: %v, %v, %v", o, among, lot)
	}
}

// All that are level are elected in the order of the lot, and tied as long as there are several.
func TestElectAllByLot(t *testing.T) {
	lot := []int{2, 0, 3, 1}
	r := rule.NewRounds(lot)
	r.ElectAll(rule.Round(make([]int, 4), 0), []int{5, 5, 5, 5})
	o := r.Outcome()
	if !slices.Equal(o.Elected, lot) || len(o.Rounds) != 1 || !slices.Equal(o.Rounds[0].Elected, lot) {
		t.Fatalf("the outcome is %v", o)
	}
	checkTies(t, o.Ties, api.Tie{Among: []int{0, 1, 2, 3}, Chosen: 2}, api.Tie{Among: []int{0, 1, 3}, Chosen: 0}, api.Tie{Among: []int{1, 3}, Chosen: 3})
}
