package condorcet_test

import (
	"fmt"
	"math"
	"math/rand"
	"slices"
	"testing"

	"suffrage/api"
	"suffrage/pairs"
	"suffrage/profile"
	"suffrage/ratio"
)

func row(many int, marks ...int) api.Row { return api.Row{Marks: marks, Many: many} }

// of returns a profile with rows, valid or not.
func of(cands int, kind uint8, rows ...api.Row) api.Profile {
	return api.Profile{Cands: cands, Kind: kind, Rows: rows}
}

// ranks returns a profile of rankings.
func ranks(cands int, rows ...api.Row) api.Profile { return of(cands, 1, rows...) }

// tie returns a decision by lot.
func tie(chosen int, among ...int) api.Tie { return api.Tie{Among: among, Chosen: chosen} }

// outcome returns the outcome with these numbers, in halves.
func outcome(halves []int, elected int, ties ...api.Tie) api.Outcome {
	round := api.Round{Lost: ratio.Whole(0), Elected: []int{elected}}
	for _, n := range halves {
		round.Had = append(round.Had, modelNumber(n))
	}
	return api.Outcome{Elected: []int{elected}, Rounds: []api.Round{round}, Ties: ties}
}

// doubled returns whole numbers in halves.
func doubled(l ...int) []int {
	var halves []int
	for _, n := range l {
		halves = append(halves, 2*n)
	}
	return halves
}

func (m method) check(t *testing.T, p api.Profile, lot []int, want api.Outcome) {
	t.Helper()
	if o, e := m.do(p, 1, lot); !same(o, want) || e != api.OK {
		t.Errorf("%s of %s, lot %v: %v, %d; want %v", m.name, show(p), lot, o, int(e), want)
	}
	if o, e := m.model(p, 1, lot); !same(o, want) || e != api.OK {
		t.Errorf("the model of %s of %s, lot %v: %v, %d; want %v", m.name, show(p), lot, o, int(e), want)
	}
}

func (m method) checkError(t *testing.T, p api.Profile, seats int, lot []int, want api.Errno) {
	t.Helper()
	if o, e := m.do(p, seats, lot); !same(o, api.Outcome{}) || e != want {
		t.Errorf("%s of %s, %d seats, lot %v: %v, %d; want nothing, %d", m.name, show(p), seats, lot, o, int(e), int(want))
	}
}

func (m method) checkModel(t *testing.T, p api.Profile, seats int, lot []int) (api.Outcome, api.Errno) {
	t.Helper()
	o, e := m.do(p, seats, lot)
	want, wantE := m.model(p, seats, lot)
	if !same(o, want) || e != wantE {
		t.Errorf("%s of %s, %d seats, lot %v: %v, %d; want %v, %d", m.name, show(p), seats, lot, o, int(e), want, int(wantE))
	}
	return o, e
}

// theExample is the profile of the document's example.
func theExample() api.Profile { return ranks(3, row(3, 0, 1, 2), row(2, 1, 2, 0), row(2, 2, 0, 1)) }

func TestTheExample(t *testing.T) {
	copeland().check(t, theExample(), []int{2, 1, 0}, outcome(doubled(1, 1, 1), 2, tie(2, 0, 1, 2)))
	minimax().check(t, theExample(), []int{2, 1, 0}, outcome(doubled(1, 3, 3), 0))
	for _, lot := range lots(3) {
		copeland().check(t, theExample(), lot, outcome(doubled(1, 1, 1), lot[0], tie(lot[0], 0, 1, 2)))
		minimax().check(t, theExample(), lot, outcome(doubled(1, 3, 3), 0))
	}
}

// P12.2

// Scores that are whole, and halves.
func TestCopeland(t *testing.T) {
	lot := []int{2, 1, 0}
	for _, c := range []struct {
		rows   []api.Row
		halves []int
		winner int
		ties   []api.Tie
	}{
		{[]api.Row{row(1, 0, 1, 2)}, []int{4, 2, 0}, 0, nil},
		{[]api.Row{row(5, 2, 1, 0)}, []int{0, 2, 4}, 2, nil},
		{[]api.Row{row(1, 1)}, []int{1, 4, 1}, 1, nil},
		{[]api.Row{row(1, 0, 1), row(1, 1, 0)}, []int{3, 3, 0}, 1, []api.Tie{tie(1, 0, 1)}},
		{[]api.Row{row(1, 0, 1), row(1, 1, 2)}, []int{2, 3, 1}, 1, nil},
		{[]api.Row{row(1, 0, 1, 2), row(1, 2, 0, 1)}, []int{3, 1, 2}, 0, nil},
		{[]api.Row{row(1, 0, 2, 1), row(1, 2, 0, 1)}, []int{3, 0, 3}, 2, []api.Tie{tie(2, 0, 2)}},
		{[]api.Row{row(1, 0, 1, 2), row(1, 2, 1, 0)}, []int{2, 2, 2}, 2, []api.Tie{tie(2, 0, 1, 2)}},
		{[]api.Row{row(1, 0, 1, 2), row(1, 1, 2, 0), row(1, 2, 0, 1)}, []int{2, 2, 2}, 2, []api.Tie{tie(2, 0, 1, 2)}},
		{[]api.Row{row(2, 0, 1, 2), row(2, 2, 0, 1), row(1, 2, 1, 0)}, []int{2, 0, 4}, 2, nil},
		{[]api.Row{row(2, 0, 2, 1), row(1, 1, 0, 2), row(1, 2, 1, 0)}, []int{3, 1, 2}, 0, nil},
	} {
		copeland().check(t, ranks(3, c.rows...), lot, outcome(c.halves, c.winner, c.ties...))
	}
	// By how many ballots a candidate is beaten does not count.
	copeland().check(t, ranks(3, row(499999, 0, 1, 2), row(500000, 1, 2, 0), row(1, 2, 0, 1)), lot, outcome([]int{1, 3, 2}, 1))
	copeland().check(t, ranks(2, row(500000, 0), row(499999, 1)), []int{1, 0}, outcome([]int{2, 0}, 0))
	copeland().check(t, ranks(2, row(500000, 0), row(500000, 1)), []int{1, 0}, outcome([]int{1, 1}, 1, tie(1, 0, 1)))
}

// P12.3

// Values of 0, also where others are level, and above.
func TestMinimax(t *testing.T) {
	lot := []int{2, 1, 0}
	for _, c := range []struct {
		rows   []api.Row
		values []int
		winner int
		ties   []api.Tie
	}{
		{[]api.Row{row(1, 0, 1, 2)}, []int{0, 1, 1}, 0, nil},
		{[]api.Row{row(5, 2, 1, 0)}, []int{5, 5, 0}, 2, nil},
		{[]api.Row{row(4, 1)}, []int{4, 0, 4}, 1, nil},
		{[]api.Row{row(1, 0, 1), row(1, 1, 0)}, []int{0, 0, 2}, 1, []api.Tie{tie(1, 0, 1)}},
		{[]api.Row{row(3, 0, 1, 2), row(3, 2, 0, 1)}, []int{0, 6, 0}, 2, []api.Tie{tie(2, 0, 2)}},
		{[]api.Row{row(7, 0, 1, 2), row(7, 2, 1, 0)}, []int{0, 0, 0}, 2, []api.Tie{tie(2, 0, 1, 2)}},
		{[]api.Row{row(4, 0, 1, 2), row(4, 1, 2, 0), row(4, 2, 0, 1)}, []int{4, 4, 4}, 2, []api.Tie{tie(2, 0, 1, 2)}},
		{[]api.Row{row(5, 0, 1, 2), row(4, 1, 2, 0), row(4, 2, 0, 1)}, []int{3, 5, 5}, 0, nil},
		{[]api.Row{row(4, 0, 1, 2), row(5, 1, 2, 0), row(5, 2, 0, 1)}, []int{6, 4, 4}, 2, []api.Tie{tie(2, 1, 2)}},
		{[]api.Row{row(9), row(2, 0, 2, 1), row(1, 1, 0, 2), row(1, 2, 1, 0)}, []int{0, 2, 2}, 0, nil},
	} {
		minimax().check(t, ranks(3, c.rows...), lot, outcome(doubled(c.values...), c.winner, c.ties...))
	}
	minimax().check(t, ranks(2, row(500000, 0), row(499999, 1)), []int{1, 0}, outcome([]int{0, 2}, 0))
	minimax().check(t, ranks(2, row(500000, 0), row(500000, 1)), []int{1, 0}, outcome([]int{0, 0}, 1, tie(1, 0, 1)))
}

// The greatest margin counts, not the sum of margins nor their number; so minimax may elect whom all others beat.
func TestMinimaxOfTheGreatestMargin(t *testing.T) {
	// 0, 1 and 2 are in a cycle of margins of 5 and more; 3 loses to each of them by 1.
	p := ranks(4, row(5, 0, 1, 2), row(5, 1, 2, 0), row(5, 2, 0, 1), row(14, 3))
	minimax().check(t, p, upTo(4), outcome(doubled(5, 5, 5, 1), 3))
	copeland().check(t, p, upTo(4), outcome([]int{4, 4, 4, 0}, 0, tie(0, 0, 1, 2)))
	checkLoser(t, modelMatrix(p), 4, 3)
	checkSmith(t, modelMatrix(p), 4, []int{0, 1, 2}, api.OK)
	// The greatest margin over 0 is that of the first, of the middle and of the last of those who beat it.
	p = ranks(4, row(1, 1, 0, 2, 3), row(1, 1, 2, 0, 3), row(5, 1, 2, 3, 0), row(2, 3, 2, 1, 0)) // 1, 2 and 3 beat 0 by 9, 7 and 5
	for _, perm := range lots(4) {
		renamed, e := profile.Rename(p, perm)
		if e != api.OK {
			t.Fatal(int(e))
		}
		minimax().check(t, renamed, upTo(4), modelRename(outcome(doubled(9, 0, 5, 5), 1), perm))
	}
}

// The lot

// The lot chooses among those who share the best number, and no one else, wherever it has the others.
func TestTheLot(t *testing.T) {
	for _, c := range []struct {
		name            string
		p               api.Profile
		scores, values  []int
		highest, lowest []int
	}{
		{"no tie", ranks(4, row(1, 0), row(2, 3, 1)), []int{2, 4, 0, 6}, []int{1, 2, 2, 0}, []int{3}, []int{3}},
		{"two of four", ranks(4, row(1, 1, 3), row(1, 3, 1)), []int{1, 5, 1, 5}, []int{2, 0, 2, 0}, []int{1, 3}, []int{1, 3}},
		{"three of four", ranks(4, row(1, 0, 2, 3), row(1, 2, 3, 0), row(1, 3, 0, 2)), []int{4, 0, 4, 4}, []int{1, 3, 1, 1}, []int{0, 2, 3}, []int{0, 2, 3}},
		{"all four", ranks(4, row(3)), []int{3, 3, 3, 3}, []int{0, 0, 0, 0}, []int{0, 1, 2, 3}, []int{0, 1, 2, 3}},
		{"three by Copeland, none by minimax", ranks(4, row(3, 0, 1, 2), row(2, 1, 2, 0), row(2, 2, 0, 1)), []int{4, 4, 4, 0}, []int{1, 3, 3, 7}, []int{0, 1, 2}, []int{0}},
		{"none by Copeland, two by minimax", ranks(4, row(1, 0, 2, 3), row(1, 1)), []int{5, 3, 3, 1}, []int{0, 0, 1, 1}, []int{0}, []int{0, 1}},
	} {
		t.Run(c.name, func(t *testing.T) {
			for _, lot := range lots(4) {
				copeland().check(t, c.p, lot, decided(c.scores, c.highest, lot))
				minimax().check(t, c.p, lot, decided(doubled(c.values...), c.lowest, lot))
			}
		})
	}
}

// decided returns the outcome with these numbers, in halves, in which the lot decides among the best.
func decided(halves, best, lot []int) api.Outcome {
	for _, c := range lot {
		if slices.Contains(best, c) && len(best) > 1 {
			return outcome(halves, c, tie(c, best...))
		}
	}
	return outcome(halves, best[0])
}

// A tie for a number that is not the best is none.
func TestOthersAreLevel(t *testing.T) {
	p := ranks(5, row(2, 4), row(1, 4, 0), row(1, 4, 1))
	copeland().check(t, p, upTo(5), outcome([]int{5, 5, 1, 1, 8}, 4))
	minimax().check(t, p, upTo(5), outcome(doubled(4, 4, 4, 4, 0), 4))
}

// Edges

func TestNoRows(t *testing.T) {
	for cands := 1; cands <= 10; cands++ {
		ties := []api.Tie{tie(cands-1, upTo(cands)...)}
		if cands == 1 {
			ties = nil
		}
		level, zeros := make([]int, cands), make([]int, cands)
		for c := range level {
			level[c] = cands - 1
		}
		p, e := profile.New(cands, 1)
		if e != api.OK {
			t.Fatal(int(e))
		}
		for _, p := range []api.Profile{p, ranks(cands), ranks(cands, row(1)), ranks(cands, row(1000000))} {
			copeland().check(t, p, downFrom(cands), outcome(level, cands-1, ties...))
			minimax().check(t, p, downFrom(cands), outcome(zeros, cands-1, ties...))
		}
	}
}

// Blank ballots change nothing.
func TestBlankBallots(t *testing.T) {
	p := theExample()
	p.Rows = append([]api.Row{row(900000)}, p.Rows...)
	copeland().check(t, p, []int{1, 2, 0}, outcome(doubled(1, 1, 1), 1, tie(1, 0, 1, 2)))
	minimax().check(t, p, []int{1, 2, 0}, outcome(doubled(1, 3, 3), 0))
}

func TestOneCandidateAlone(t *testing.T) {
	for _, p := range []api.Profile{ranks(1), ranks(1, row(7)), ranks(1, row(7, 0)), ranks(1, row(999999), row(1, 0)), ranks(1, row(1000000, 0))} {
		for _, m := range methods() {
			m.check(t, p, []int{0}, outcome([]int{0}, 0))
			for _, seats := range []int{-1, 0, 2, 10} {
				m.checkError(t, p, seats, []int{0}, api.ErrArg)
			}
		}
	}
}

func TestTenCandidates(t *testing.T) {
	order := []int{5, 7, 4, 8, 2, 0, 9, 6, 1, 3}
	scores, values := make([]int, 10), slices.Repeat([]int{1}, 10)
	for place, c := range order {
		scores[c] = 9 - place
	}
	values[5] = 0
	copeland().check(t, ranks(10, row(1, order...)), upTo(10), outcome(doubled(scores...), 5))
	minimax().check(t, ranks(10, row(1, order...)), upTo(10), outcome(doubled(values...), 5))
	// All ten in a circle: each beats the next four, and is level with the fifth.
	var circle []api.Row
	for c := range 10 {
		circle = append(circle, row(1, append(upTo(10)[c:], upTo(c)...)...))
	}
	copeland().check(t, ranks(10, circle...), downFrom(10), outcome(slices.Repeat([]int{9}, 10), 9, tie(9, upTo(10)...)))
	minimax().check(t, ranks(10, circle...), downFrom(10), outcome(slices.Repeat([]int{16}, 10), 9, tie(9, upTo(10)...)))
}

// As many ballots, and as many rows, as the limits allow.
func TestAtTheLimits(t *testing.T) {
	copeland().check(t, ranks(2, row(1000000, 1)), []int{0, 1}, outcome([]int{0, 2}, 1))
	minimax().check(t, ranks(2, row(1000000, 1)), []int{0, 1}, outcome(doubled(1000000, 0), 1))
	minimax().check(t, ranks(3, row(333334, 0, 1, 2), row(333333, 1, 2, 0), row(333333, 2, 0, 1)), []int{1, 2, 0}, outcome(doubled(333332, 333334, 333334), 0))
	minimax().check(t, ranks(10, row(1, upTo(10)...), row(999999, downFrom(10)...)), upTo(10), outcome(append(slices.Repeat([]int{2 * 999998}, 9), 0), 9))
	for _, p := range []api.Profile{fullProfile(1), unevenProfile()} {
		if many, e := profile.Many(p); e != api.OK || many != 1000000 || len(p.Rows) != 64 {
			t.Fatal(many, int(e))
		}
		for _, m := range methods() {
			for _, lot := range [][]int{upTo(10), downFrom(10), {3, 1, 4, 0, 5, 9, 2, 6, 8, 7}} {
				m.checkModel(t, p, 1, lot)
			}
		}
	}
}

// fullProfile returns a profile with 64 rows and a million ballots.
func fullProfile(kind uint8) api.Profile {
	random := rand.New(rand.NewSource(173))
	p := of(10, kind)
	for len(p.Rows) < 64 {
		p.Rows = append(p.Rows, row(15625, randomMarks(random, 10, kind)...))
		slices.SortFunc(p.Rows, func(r, s api.Row) int { return slices.Compare(r.Marks, s.Marks) })
		p.Rows = slices.CompactFunc(p.Rows, func(r, s api.Row) bool { return slices.Equal(r.Marks, s.Marks) })
	}
	return p
}

// unevenProfile is a full one in which a row has almost all ballots.
func unevenProfile() api.Profile {
	p := fullProfile(1)
	for i := range p.Rows {
		p.Rows[i].Many = 1
	}
	p.Rows[40].Many = 999937
	return p
}

// Errors

// wrongProfiles returns, for each error of profile.Check, profiles of rankings that have it, and others that have it whatever their kind.
func wrongProfiles() map[api.Errno][]api.Profile {
	first, second := row(2, 0), row(2, 1, 0)
	great := func(r api.Row, many int) api.Row { return api.Row{Marks: r.Marks, Many: many} }
	wrong := map[api.Errno][]api.Profile{
		api.ErrFull: {ranks(2, make([]api.Row, 65)...), ranks(2, slices.Repeat([]api.Row{first, second}, 33)...), of(0, 9, make([]api.Row, 65)...), ranks(10, append(fullProfile(1).Rows, row(1, 9, 8, 7, 6, 5, 4, 3, 2, 1, 0))...)},
		api.ErrMany: {ranks(2, great(first, 1000001)), ranks(2, first, great(second, 999999)), ranks(2, great(first, math.MaxInt), second), ranks(2, great(first, math.MaxInt), great(second, math.MaxInt)), ranks(2, first, great(second, 1<<32)), of(2, 2, row(1000001, 1)), ranks(2, row(1000001))},
		api.ErrBad: {{}, of(2, 0), of(2, 4), of(2, 255), ranks(2, second, first), ranks(2, first, first), ranks(2, row(1, 2)), ranks(2, row(1, -1, 0)), ranks(2, row(1, 0, 11)), ranks(2, row(1, 1, 1)), ranks(2, row(1, 0, 1, 0)), ranks(2, row(1, 0, 1<<32+1)),
			ranks(1, first, second), ranks(2, row(1), row(1)), of(2, 2, row(1, 1, 0)), of(2, 3, row(1, 1)), of(2, 3, row(1, 0, 11))},
	}
	for _, many := range []int{0, -1, math.MinInt, -1 << 32} {
		wrong[api.ErrBad] = append(wrong[api.ErrBad], ranks(2, great(first, many)), ranks(2, first, great(second, many)))
	}
	for _, cands := range []int{0, -1, 11, 12, math.MaxInt, math.MinInt, 1<<32 + 2, 256 + 2} {
		wrong[api.ErrBad] = append(wrong[api.ErrBad], ranks(cands), ranks(cands, first))
	}
	return wrong
}

func TestWrongProfiles(t *testing.T) {
	for want, l := range wrongProfiles() {
		for _, p := range l {
			if e := profile.Check(p); e != want {
				t.Errorf("the error of %s is %d; want %d", show(p), int(e), int(want))
			}
			for _, m := range methods() {
				m.checkError(t, p, 1, []int{0, 1}, api.ErrBad)
				m.checkError(t, p, 1, upTo(min(max(p.Cands, 0), 20)), api.ErrBad)
				m.checkError(t, p, 0, nil, api.ErrBad)
			}
		}
	}
}

func TestWrongKinds(t *testing.T) {
	for kind := range 256 {
		for _, p := range []api.Profile{of(2, uint8(kind)), of(2, uint8(kind), row(1, 0, 1)), of(1, uint8(kind), row(1, 0))} {
			for _, m := range methods() {
				if kind == 1 {
					m.checkModel(t, p, 1, upTo(p.Cands))
					continue
				}
				m.checkError(t, p, 1, upTo(p.Cands), api.ErrBad)
			}
		}
	}
	for kind := uint8(2); kind <= 3; kind++ {
		for _, m := range methods() {
			m.checkError(t, fullProfile(kind), 1, upTo(10), api.ErrBad)
		}
	}
}

func TestWrongSeats(t *testing.T) {
	for _, m := range methods() {
		for cands := 1; cands <= 10; cands++ {
			p := ranks(cands, row(2, 0))
			for _, seats := range append(wilds(), cands, cands+1, cands-1, 1+1<<8, 1+1<<16, 1-1<<32, 1+1<<62, -cands) {
				if seats == 1 {
					m.checkModel(t, p, seats, upTo(cands))
					continue
				}
				m.checkError(t, p, seats, upTo(cands), api.ErrArg)
			}
		}
	}
}

// wrongLots are no permutations of so many candidates.
func wrongLots(cands int) [][]int {
	l := [][]int{nil, {}, upTo(cands)[:0], upTo(cands)[:cands-1], upTo(cands + 1)[1:], upTo(cands + 1), downFrom(cands + 1), append(upTo(cands), 0), append(upTo(cands), -1), append(upTo(cands), cands-1), upTo(1000), slices.Repeat([]int{-1}, cands), slices.Repeat(upTo(cands), 2)}
	if cands > 1 {
		l = append(l, make([]int, cands), slices.Repeat([]int{cands - 1}, cands))
	}
	for at := range cands {
		for _, wrong := range []int{-1, cands, at - cands, cands + 1, 10, 11, 64, math.MaxInt, math.MinInt, at + 1<<32, at + 256, at - 256} {
			if wrong < 0 || wrong >= cands {
				l = append(l, slices.Concat(upTo(cands)[:at], []int{wrong}, upTo(cands)[at+1:]))
			}
		}
		for _, c := range others(cands, at) {
			twice := downFrom(cands)
			twice[at] = twice[c]
			l = append(l, twice)
		}
	}
	return l
}

func TestWrongLots(t *testing.T) {
	for _, m := range methods() {
		for cands := 1; cands <= 10; cands++ {
			full := ranks(cands, row(1, upTo(cands)...))
			if cands == 10 {
				full = fullProfile(1)
			}
			for _, lot := range wrongLots(cands) {
				m.checkError(t, ranks(cands), 1, lot, api.ErrArg)
				m.checkError(t, full, 1, lot, api.ErrArg)
				m.checkError(t, full, 2, lot, api.ErrArg)
			}
		}
	}
}

// The model

// counted returns all profiles of these rankings, each of which occurs up to most times.
func counted(cands, most int, rankings [][]int) []api.Profile {
	slices.SortFunc(rankings, slices.Compare)
	all := []api.Profile{ranks(cands)}
	for _, marks := range rankings {
		for _, p := range all {
			for many := 1; many <= most; many++ {
				all = append(all, ranks(cands, slices.Concat(p.Rows, []api.Row{row(many, marks...)})...))
			}
		}
	}
	return all
}

// smallProfiles returns all profiles of few ballots among few candidates.
func smallProfiles() []api.Profile {
	return slices.Concat(
		counted(1, 3, [][]int{{}, {0}}),
		counted(2, 3, [][]int{{}, {0}, {0, 1}, {1}, {1, 0}}),
		counted(3, 2, lots(3)),
		counted(3, 1, [][]int{{}, {0}, {1}, {2}, {0, 1}, {2, 1}, {1, 2, 0}, {2, 0, 1}, {0, 2, 1}}),
		counted(4, 1, [][]int{{0}, {1, 2, 3, 0}, {2, 3, 0, 1}, {3, 0, 1, 2}, {3, 1}, {1, 0, 3}, {2, 1, 3}}),
	)
}

// related returns a profile whose candidates beat each other as those of m do, where all margins are even. Of each pair, two rankings cancel each other out but for the pair.
func related(t *testing.T, m api.Pairs, cands int) api.Profile {
	t.Helper()
	p := ranks(cands)
	for x := range cands {
		for _, y := range others(cands, x) {
			if m[x][y] <= m[y][x] {
				continue
			}
			rest := slices.DeleteFunc(upTo(cands), func(c int) bool { return c == x || c == y })
			for _, marks := range [][]int{slices.Concat([]int{x, y}, rest), slices.Concat(reversed(rest), []int{x, y})} {
				var e api.Errno
				if p, e = profile.Add(p, api.Ballot{Kind: 1, Marks: marks}, (m[x][y]-m[y][x])/2); e != api.OK {
					t.Fatal(int(e))
				}
			}
		}
	}
	return p
}

func reversed(l []int) []int {
	l = slices.Clone(l)
	slices.Reverse(l)
	return l
}

// All ways in which up to four candidates may beat each other, and some in which five may.
func TestAllRelationsHaveTheModelsOutcomes(t *testing.T) {
	random := rand.New(rand.NewSource(174))
	for cands := 1; cands <= 5; cands++ {
		all := relations(cands)
		if cands == 5 {
			random.Shuffle(len(all), func(i, j int) { all[i], all[j] = all[j], all[i] })
			all = all[:2000]
		}
		for _, m := range all {
			p := related(t, m, cands)
			for x := range cands {
				for _, y := range others(cands, x) {
					if modelPreferring(p, x, y)-modelPreferring(p, y, x) != m[x][y]-m[y][x] {
						t.Fatalf("%s is not of %v", show(p), m)
					}
				}
			}
			for _, method := range methods() {
				method.checkModel(t, p, 1, random.Perm(cands))
			}
		}
	}
}

func TestSmallProfilesHaveTheModelsOutcomes(t *testing.T) {
	random := rand.New(rand.NewSource(175))
	tied := map[string]map[int]int{}
	for _, p := range smallProfiles() {
		if e := profile.Check(p); e != api.OK {
			t.Fatal(show(p), int(e))
		}
		for _, m := range methods() {
			if tied[m.name] == nil {
				tied[m.name] = map[int]int{}
			}
			o, _ := m.checkModel(t, p, 1, random.Perm(p.Cands))
			for _, x := range o.Ties {
				tied[m.name][len(x.Among)]++
			}
			m.checkModel(t, p, 1, downFrom(p.Cands))
		}
	}
	for _, m := range methods() {
		if l := tied[m.name]; l[0]+l[1] > 0 || l[2] < 100 || l[3] < 50 || l[4] < 1 {
			t.Errorf("of %s, so many are tied: %v", m.name, l)
		}
	}
}

func TestRandomProfilesHaveTheModelsOutcomes(t *testing.T) {
	random := rand.New(rand.NewSource(176))
	outcomes, tied, halves, cycles := 0, 0, 0, 0
	for range 8000 {
		p := randomProfile(random, 1+random.Intn(10), api.KindRank)
		if random.Intn(2) == 0 {
			p = evened(random, p)
		}
		lot := random.Perm(p.Cands)
		for _, m := range methods() {
			o, e := m.checkModel(t, p, 1, lot)
			if e != api.OK {
				t.Fatal(show(p), int(e))
			}
			outcomes++
			tied += len(o.Ties)
			if slices.ContainsFunc(o.Rounds[0].Had, func(x api.Ratio) bool { return !slices.Equal(x.Den, []uint32{1}) }) {
				halves++
			}
		}
		m, e := pairs.Of(p)
		if e != api.OK || m != modelMatrix(p) {
			t.Fatalf("the matrix of %s is %v, %d", show(p), m, int(e))
		}
		if smith, _ := checkModels(t, m, p.Cands); len(smith) > 2 {
			cycles++
		}
	}
	if outcomes != 16000 || tied < 3000 || halves < 2000 || cycles < 2000 {
		t.Errorf("%d outcomes, %d ties, %d with halves, %d with three and more in the Smith set", outcomes, tied, halves, cycles)
	}
}

// The outcome

// The form of every outcome, whatever it says.
func TestTheWholeOutcome(t *testing.T) {
	random := rand.New(rand.NewSource(177))
	for range 3000 {
		p := evened(random, randomProfile(random, 1+random.Intn(10), api.KindRank))
		lot := random.Perm(p.Cands)
		for _, m := range methods() {
			o, e := m.do(p, 1, lot)
			if e != api.OK || len(o.Elected) != 1 || len(o.Rounds) != 1 || len(o.Ties) > 1 {
				t.Fatalf("%s of %s: %v, %d", m.name, show(p), o, int(e))
			}
			r := o.Rounds[0]
			if len(r.Had) != p.Cands || !slices.Equal(r.Elected, o.Elected) || len(r.Out) != 0 || !ratio.Same(r.Lost, ratio.Whole(0)) {
				t.Errorf("%s of %s: the round is %v", m.name, show(p), r)
			}
			checkBest(t, fmt.Sprint(m.name, " of ", show(p), ", lot ", lot), m.sign, o, lot)
		}
	}
}

// checkBest holds who is elected, and the tie, against the numbers of the round, by the arithmetic of layer 4.
func checkBest(t *testing.T, name string, sign int, o api.Outcome, lot []int) {
	t.Helper()
	var best []int
	had := o.Rounds[0].Had
	for c, x := range had {
		isBest := true
		for _, y := range had {
			order, e := ratio.Cmp(x, y)
			if e != api.OK {
				t.Fatalf("%s: %v and %v have error %d", name, x, y, int(e))
			}
			isBest = isBest && order*sign >= 0
		}
		if isBest {
			best = append(best, c)
		}
	}
	first := lot[slices.IndexFunc(lot, func(c int) bool { return slices.Contains(best, c) })]
	var want []api.Tie
	if len(best) > 1 {
		want = []api.Tie{tie(first, best...)}
	}
	if o.Elected[0] != first || !same(api.Outcome{Ties: o.Ties}, api.Outcome{Ties: want}) {
		t.Errorf("%s: %v; the best are %v", name, o, best)
	}
}
