package lists_test

import (
	"fmt"
	"math"
	"math/rand"
	"slices"
	"testing"

	"suffrage/api"
	"suffrage/profile"
)

// Lists of parties

// upTo returns the numbers from 0 to n - 1.
func upTo(n int) []int {
	var l []int
	for i := range n {
		l = append(l, i)
	}
	return l
}

// downFrom returns the numbers from n - 1 to 0.
func downFrom(n int) []int { return reversed(upTo(n)) }

func reversed(l []int) []int {
	l = slices.Clone(l)
	slices.Reverse(l)
	return l
}

// lots returns all permutations of n parties.
func lots(n int) [][]int {
	if n == 0 {
		return [][]int{nil}
	}
	var all [][]int
	for _, l := range lots(n - 1) {
		for at := range n {
			all = append(all, slices.Insert(slices.Clone(l), at, n-1))
		}
	}
	return all
}

// someLots returns a few permutations of n parties.
func someLots(n int) [][]int {
	return [][]int{upTo(n), downFrom(n), append(upTo(n)[n/2:], upTo(n/2)...)}
}

// inOrder returns the list in ascending order.
func inOrder(l []int) []int { return slices.Sorted(slices.Values(l)) }

// wilds are numbers that are at a limit or beyond one.
func wilds() []int {
	return []int{math.MinInt, math.MinInt + 1, -1 << 62, -1 << 32, -million, -11, -10, -2, -1, 0, 1, 2, 3, 9, 10, 11, 12, 255, 256, 257, million - 1, million, million + 1, 1 << 31, 1<<32 - 1, 1 << 32, 1<<32 + 1, 1 << 62, math.MaxInt - 1, math.MaxInt}
}

func randomWild(random *rand.Rand) int { return wilds()[random.Intn(len(wilds()))] }

// wrongLots are no permutations of so many parties.
func wrongLots(cands int) [][]int {
	lot := upTo(cands)
	wrong := [][]int{nil, {}, lot[:cands-1], lot[1:], append(upTo(cands), cands), append(upTo(cands), 0), append(upTo(cands), cands-1), append([]int{-1}, lot[1:]...), append([]int{-1}, lot...), append(upTo(cands-1), cands), make([]int, 200), slices.Repeat([]int{cands - 1}, cands+1)}
	for at := range lot {
		for _, wild := range []int{-1, cands, 10, 11, math.MinInt, math.MaxInt, at + 1<<8, at + 1<<32, at - 1<<32} {
			if wild != at {
				changed := upTo(cands)
				changed[at] = wild
				wrong = append(wrong, changed)
			}
		}
		if at > 0 { // a number twice
			twice := upTo(cands)
			twice[at] = at - 1
			wrong = append(wrong, twice, reversed(twice))
		}
	}
	return slices.DeleteFunc(wrong, func(l []int) bool { return isLot(l, cands) })
}

// Profiles

func row(many int, marks ...int) api.Row { return api.Row{Marks: marks, Many: many} }

// of returns a profile with rows, valid or not.
func of(cands int, kind uint8, rows ...api.Row) api.Profile {
	return api.Profile{Cands: cands, Kind: kind, Rows: rows}
}

// marking returns a profile of marks, with its rows in order.
func marking(cands int, rows ...api.Row) api.Profile {
	slices.SortStableFunc(rows, func(r, s api.Row) int { return slices.Compare(r.Marks, s.Marks) })
	return of(cands, 2, rows...)
}

// voting returns a profile in which the parties have these votes, and no ballot is invalid.
func voting(votes ...int) api.Profile {
	p := of(len(votes), 2)
	for party, n := range votes {
		if n > 0 {
			p.Rows = append(p.Rows, row(n, party))
		}
	}
	return p
}

// fullProfile returns a profile of any kind with as many rows and as many ballots as the limits allow.
func fullProfile(kind uint8) api.Profile {
	p := of(10, kind)
	for i := range 64 {
		marks := []int{i / 8, 9 - i%8}
		switch kind {
		case 1:
			if marks[0] == marks[1] {
				marks = marks[:1]
			}
		case 2: // each party alone, and two or three of them
			marks = slices.DeleteFunc(upTo(10), func(c int) bool { return c != i%10 && c != (i+i/20)%10 && c != (i+i/10)%10 })
		case 3:
			marks = []int{0, 10, 5, 0, 0, 0, i / 8, i % 8, 7, 10}
		}
		p.Rows = append(p.Rows, row(15625, marks...))
	}
	slices.SortFunc(p.Rows, func(r, s api.Row) int { return slices.Compare(r.Marks, s.Marks) })
	return p
}

// unevenProfile is like fullProfile, with rows of all sizes.
func unevenProfile() api.Profile {
	p := fullProfile(2)
	for i := range 32 {
		p.Rows[i].Many = 31249 - 977*i
		p.Rows[63-i].Many = 1 + 977*i
	}
	return p
}

// randomProfile returns a valid profile of marks, often with few votes, so that parties are tied.
func randomProfile(random *rand.Rand, cands int) api.Profile {
	var rows []api.Row
	many := []int{1, 3, 12, 1000, million / 20}[random.Intn(5)]
	for party := range cands {
		if random.Intn(5) > 0 {
			rows = append(rows, row(1+random.Intn(many), party))
		}
	}
	for range random.Intn(5) {
		marks := inOrder(random.Perm(cands)[:random.Intn(cands+1)])
		if len(marks) != 1 && !slices.ContainsFunc(rows, func(r api.Row) bool { return slices.Equal(r.Marks, marks) }) {
			rows = append(rows, row(1+random.Intn(many), marks...))
		}
	}
	return marking(cands, rows...)
}

// levelProfile returns a valid profile in which the votes of the parties are small multiples of one number, so that quotients and remainders are often equal.
func levelProfile(random *rand.Rand, cands int) api.Profile {
	unit := []int{1, 2, 60, 5000}[random.Intn(4)]
	var votes []int
	for range cands {
		votes = append(votes, unit*[]int{0, 1, 1, 2, 3, 4, 5, 6, 9, 12, 19}[random.Intn(11)])
	}
	p := voting(votes...)
	if random.Intn(3) == 0 {
		p.Rows = slices.Insert(p.Rows, 0, row(1+random.Intn(9)))
	}
	return p
}

// anyProfile returns a valid profile of marks.
func anyProfile(random *rand.Rand) api.Profile {
	cands := 1 + random.Intn(10)
	if random.Intn(2) == 0 {
		return levelProfile(random, cands)
	}
	return randomProfile(random, cands)
}

// spoilt returns p with a change, after which it often is not valid.
func spoilt(random *rand.Rand, p api.Profile) api.Profile {
	p = profile.Twin(p)
	wild := randomWild(random)
	if len(p.Rows) == 0 {
		p.Rows = []api.Row{{Many: wild}}
	}
	at, other := random.Intn(len(p.Rows)), random.Intn(len(p.Rows))
	switch random.Intn(7) {
	case 0:
		p.Cands = wild
	case 1:
		p.Kind = uint8(random.Intn(5))
	case 2:
		p.Rows[at].Many = wild
	case 3:
		p.Rows[at].Marks = append(p.Rows[at].Marks, wild)
	case 4:
		p.Rows[at], p.Rows[other] = p.Rows[other], p.Rows[at]
	case 5:
		p.Rows = append(p.Rows, make([]api.Row, random.Intn(99))...)
	case 6:
		p.Cands = random.Intn(11)
	}
	return p
}

// spoiltLot returns the lot with a change, after which it often is none.
func spoiltLot(random *rand.Rand, lot []int) []int {
	lot = slices.Clone(lot)
	switch random.Intn(3) {
	case 0:
		lot[random.Intn(len(lot))] = randomWild(random)
	case 1:
		lot = lot[:random.Intn(len(lot))]
	case 2:
		lot = append(lot, randomWild(random))
	}
	return lot
}

// wrongProfiles returns, for each error of profile.Check, profiles of marks that have it, and others that have it whatever their kind.
func wrongProfiles() map[api.Errno][]api.Profile {
	first, second := row(2, 0), row(2, 1)
	great := func(r api.Row, many int) api.Row { return api.Row{Marks: r.Marks, Many: many} }
	marks := func(cands int, rows ...api.Row) api.Profile { return of(cands, 2, rows...) }
	wrong := map[api.Errno][]api.Profile{
		api.ErrFull: {marks(2, make([]api.Row, 65)...), marks(2, slices.Repeat([]api.Row{first, second}, 33)...), of(0, 9, make([]api.Row, 65)...), marks(10, append(fullProfile(2).Rows, row(1, 9, 10))...)},
		api.ErrMany: {marks(2, great(first, million+1)), marks(2, first, great(second, million-1)), marks(2, great(first, math.MaxInt), second), marks(2, great(first, math.MaxInt), great(second, math.MaxInt)), marks(2, first, great(second, 1<<32)), of(2, 1, row(million+1, 1)), marks(2, row(million+1))},
		api.ErrBad: {{}, of(2, 0), of(2, 4), of(2, 255), marks(2, second, first), marks(2, first, first), marks(2, row(1, 2)), marks(2, row(1, -1)), marks(2, row(1, -1, 0)), marks(2, row(1, 0, 11)), marks(2, row(1, 1, 1)), marks(2, row(1, 1, 0)), marks(2, row(1, 0, 1, 0)), marks(2, row(1, 1<<32+1)),
			marks(1, first, second), marks(2, row(1), row(1)), of(2, 1, row(1, 1, 1)), of(2, 3, row(1, 1)), of(2, 3, row(1, 0, 11))},
	}
	for _, many := range []int{0, -1, math.MinInt, -1 << 32} {
		wrong[api.ErrBad] = append(wrong[api.ErrBad], marks(2, great(first, many)), marks(2, first, great(second, many)))
	}
	for _, cands := range []int{0, -1, 11, 12, math.MaxInt, math.MinInt, 1<<32 + 2, 256 + 2} {
		wrong[api.ErrBad] = append(wrong[api.ErrBad], marks(cands), marks(cands, first))
	}
	return wrong
}

// show returns a text of p, or of its start if it is long.
func show(p api.Profile) string {
	s := fmt.Sprintf("%d rows among %d of kind %d: %v", len(p.Rows), p.Cands, p.Kind, p.Rows[:min(len(p.Rows), 80)])
	return s[:min(len(s), 1000)]
}

// Outcomes

// tie returns a decision by lot.
func tie(chosen int, among ...int) api.Tie { return api.Tie{Among: among, Chosen: chosen} }

// ties returns a list of decisions by lot.
func ties(l ...api.Tie) []api.Tie { return l }

// outcome returns the outcome in which the parties have these votes.
func outcome(votes []int, invalid int, elected []int, ties ...api.Tie) api.Outcome {
	round := api.Round{Lost: modelNumber(invalid), Elected: slices.Clone(elected)}
	for _, n := range votes {
		round.Had = append(round.Had, modelNumber(n))
	}
	return api.Outcome{Elected: elected, Rounds: []api.Round{round}, Ties: ties}
}

func sameNumber(x, y api.Ratio) bool {
	return x.Neg == y.Neg && slices.Equal(x.Num, y.Num) && slices.Equal(x.Den, y.Den)
}

func sameTies(a, b []api.Tie) bool {
	return slices.EqualFunc(a, b, func(r, s api.Tie) bool { return slices.Equal(r.Among, s.Among) && r.Chosen == s.Chosen })
}

// same reports whether two outcomes are equal in all fields.
func same(a, b api.Outcome) bool {
	return slices.Equal(a.Elected, b.Elected) && slices.EqualFunc(a.Rounds, b.Rounds, func(r, s api.Round) bool {
		return slices.EqualFunc(r.Had, s.Had, sameNumber) && sameNumber(r.Lost, s.Lost) && slices.Equal(r.Elected, s.Elected) && slices.Equal(r.Out, s.Out)
	}) && sameTies(a.Ties, b.Ties)
}

func twinNumber(x api.Ratio) api.Ratio {
	return api.Ratio{Neg: x.Neg, Num: slices.Clone(x.Num), Den: slices.Clone(x.Den)}
}

// twin returns o in memory of its own.
func twin(o api.Outcome) api.Outcome {
	copied := api.Outcome{Elected: slices.Clone(o.Elected)}
	for _, r := range o.Rounds {
		round := api.Round{Lost: twinNumber(r.Lost), Elected: slices.Clone(r.Elected), Out: slices.Clone(r.Out)}
		for _, n := range r.Had {
			round.Had = append(round.Had, twinNumber(n))
		}
		copied.Rounds = append(copied.Rounds, round)
	}
	for _, x := range o.Ties {
		copied.Ties = append(copied.Ties, tie(x.Chosen, slices.Clone(x.Among)...))
	}
	return copied
}

// Checks

// run returns the outcome of a call that is right.
func (m method) run(t *testing.T, p api.Profile, seats int, lot []int) api.Outcome {
	t.Helper()
	o, e := m.do(p, seats, lot)
	if e != api.OK || len(o.Elected) != seats || len(o.Rounds) != 1 || len(o.Rounds[0].Had) != p.Cands {
		t.Fatalf("%s of %s, %d seats, lot %v: %v, %d", m.name, show(p), seats, lot, o, int(e))
	}
	return o
}

// check holds an outcome against the one that is wanted, and against the model's.
func (m method) check(t *testing.T, p api.Profile, seats int, lot []int, want api.Outcome) {
	t.Helper()
	if o := m.run(t, p, seats, lot); !same(o, want) {
		t.Errorf("%s of %s, %d seats, lot %v: %v; want %v", m.name, show(p), seats, lot, o, want)
	}
	m.checkModel(t, p, seats, lot)
}

// checkModel holds an answer against the model's, and returns it.
func (m method) checkModel(t *testing.T, p api.Profile, seats int, lot []int) (api.Outcome, api.Errno) {
	t.Helper()
	o, e := m.do(p, seats, lot)
	if want, wantE := m.model(p, seats, lot); !same(o, want) || e != wantE {
		t.Errorf("%s of %s, %d seats, lot %v: %v, %d; want %v, %d", m.name, show(p), seats, lot, o, int(e), want, int(wantE))
	}
	return o, e
}

func (m method) checkError(t *testing.T, p api.Profile, seats int, lot []int, want api.Errno) {
	t.Helper()
	o, e := m.do(p, seats, lot)
	if e != want || o.Elected != nil || o.Rounds != nil || o.Ties != nil {
		t.Errorf("%s of %s, %d seats, lot %v: %v, %d; want error %d", m.name, show(p), seats, lot[:min(len(lot), 50)], o, int(e), int(want))
	}
	if _, modelE := m.model(p, seats, lot); modelE != want {
		t.Errorf("the model of %s of %s, %d seats, lot %v has error %d; want %d", m.name, show(p), seats, lot[:min(len(lot), 50)], int(modelE), int(want))
	}
}

// allocation is a case: votes, all of them valid, a lot, and what follows.
type allocation struct {
	name    string
	votes   []int
	lot     []int
	elected []int
	ties    []api.Tie
}

// check checks the outcome with as many seats as are elected.
func (c allocation) check(t *testing.T, m method) {
	t.Helper()
	m.check(t, voting(c.votes...), len(c.elected), c.lot, outcome(c.votes, 0, c.elected, c.ties...))
}
