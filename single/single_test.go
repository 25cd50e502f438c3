package single_test

import (
	"math"
	"math/rand"
	"slices"
	"testing"

	"suffrage/api"
	"suffrage/profile"
	"suffrage/ratio"
)

func row(many int, marks ...int) api.Row { return api.Row{Marks: marks, Many: many} }

// of returns a profile with rows, valid or not.
func of(cands int, kind uint8, rows ...api.Row) api.Profile {
	return api.Profile{Cands: cands, Kind: kind, Rows: rows}
}

// tie returns a decision by lot.
func tie(chosen int, among ...int) api.Tie { return api.Tie{Among: among, Chosen: chosen} }

// outcome returns the outcome with these points, lost ballots, winners and ties.
func outcome(had []int, lost int, elected []int, ties ...api.Tie) api.Outcome {
	round := api.Round{Lost: ratio.Whole(lost), Elected: elected}
	for _, n := range had {
		round.Had = append(round.Had, ratio.Whole(n))
	}
	return api.Outcome{Elected: elected, Rounds: []api.Round{round}, Ties: ties}
}

func (m method) check(t *testing.T, p api.Profile, seats int, lot []int, want api.Outcome) {
	t.Helper()
	if o, e := m.do(p, seats, lot); !same(o, want) || e != api.OK {
		t.Errorf("%s of %s, %d seats, lot %v: %v, %d; want %v", m.name, show(p), seats, lot, o, int(e), want)
	}
	if o, e := m.model(p, seats, lot); !same(o, want) || e != api.OK {
		t.Errorf("the model of %s of %s, %d seats, lot %v: %v, %d; want %v", m.name, show(p), seats, lot, o, int(e), want)
	}
}

// checkSeats checks the outcomes of p for any number of seats; whole is the one of as many seats as candidates.
func (m method) checkSeats(t *testing.T, p api.Profile, lot []int, whole api.Outcome) {
	t.Helper()
	for seats := 1; seats <= p.Cands; seats++ {
		want := twin(whole)
		want.Elected, want.Rounds[0].Elected = want.Elected[:seats], want.Elected[:seats]
		// A tie is recorded if the candidate that it chooses gets one of the seats.
		want.Ties = slices.DeleteFunc(want.Ties, func(x api.Tie) bool { return !slices.Contains(want.Elected, x.Chosen) })
		m.check(t, p, seats, lot, want)
	}
}

func (m method) checkError(t *testing.T, p api.Profile, seats int, lot []int, want api.Errno) {
	t.Helper()
	if o, e := m.do(p, seats, lot); !same(o, api.Outcome{}) || e != want {
		t.Errorf("%s of %s, %d seats, lot %v: %v, %d; want nothing, %d", m.name, show(p), seats, lot, o, int(e), int(want))
	}
}

func (m method) checkModel(t *testing.T, p api.Profile, seats int, lot []int) (api.Outcome, api.Errno) {
	t.Helper()
	o, e := m.do(p, seats, lot)
	want, wantE := m.model(p, seats, lot)
	if !same(o, want) || e != wantE {
		t.Errorf("%s of %s, %d seats, lot %v: %v, %d; want %v, %d", m.name, show(p), seats, lot, o, int(e), want, int(wantE))
	}
	return o, e
}

// The examples of the document.
func TestExamples(t *testing.T) {
	marks := of(2, 2, row(3, 0), row(1, 0, 1), row(3, 1))
	plurality().check(t, marks, 1, []int{1, 0}, outcome([]int{3, 3}, 1, []int{1}, tie(1, 0, 1)))
	approval().check(t, marks, 1, []int{1, 0}, outcome([]int{4, 4}, 0, []int{1}, tie(1, 0, 1)))
	rankings := of(3, 1, row(2, 0, 1, 2), row(3, 1, 2, 0))
	for _, lot := range lots(3) {
		borda().check(t, rankings, 1, lot, outcome([]int{4, 8, 3}, 0, []int{1}))
	}
}

// P11.1

func TestPlurality(t *testing.T) {
	for _, c := range []struct {
		rows    []api.Row
		had     []int
		lost    int
		elected []int
		ties    []api.Tie
	}{
		{[]api.Row{row(5, 0), row(3, 1), row(7, 2)}, []int{5, 3, 7}, 0, []int{2, 0, 1}, nil},
		{[]api.Row{row(4), row(5, 0), row(3, 1), row(7, 2)}, []int{5, 3, 7}, 4, []int{2, 0, 1}, nil},
		{[]api.Row{row(5, 0), row(100, 0, 1), row(3, 1), row(7, 2)}, []int{5, 3, 7}, 100, []int{2, 0, 1}, nil},
		{[]api.Row{row(5, 0), row(100, 0, 1, 2), row(3, 1), row(7, 2)}, []int{5, 3, 7}, 100, []int{2, 0, 1}, nil},
		{[]api.Row{row(1), row(10, 0, 1), row(100, 0, 1, 2), row(1000, 0, 2), row(10000, 1), row(100000, 1, 2)}, []int{0, 10000, 0}, 101111, []int{1, 2, 0}, []api.Tie{tie(2, 0, 2)}},
		{[]api.Row{row(9), row(9, 0, 2)}, []int{0, 0, 0}, 18, []int{2, 1, 0}, []api.Tie{tie(2, 0, 1, 2), tie(1, 0, 1)}},
	} {
		plurality().checkSeats(t, of(3, 2, c.rows...), []int{2, 1, 0}, outcome(c.had, c.lost, c.elected, c.ties...))
	}
}

// Each ballot adds to the points of the one candidate that it marks, or else to what is lost.
func TestPluralityOfOneBallot(t *testing.T) {
	for cands := 1; cands <= 10; cands++ {
		for set := range 1 << cands {
			var marks []int
			for c := range cands {
				if set>>c&1 == 1 {
					marks = append(marks, c)
				}
			}
			p := of(cands, 2, row(7, marks...))
			o, e := plurality().checkModel(t, p, cands, upTo(cands))
			if e != api.OK {
				t.Fatal(int(e))
			}
			lost := 7
			if len(marks) == 1 {
				lost = 0
				if o.Elected[0] != marks[0] || !ratio.Same(o.Rounds[0].Had[marks[0]], ratio.Whole(7)) {
					t.Errorf("Plurality of %s: %v", show(p), o)
				}
			}
			if !ratio.Same(o.Rounds[0].Lost, ratio.Whole(lost)) {
				t.Errorf("Plurality of %s loses %v; want %d", show(p), o.Rounds[0].Lost, lost)
			}
			o, _ = approval().checkModel(t, p, cands, upTo(cands))
			for c, n := range o.Rounds[0].Had {
				if !ratio.Same(n, ratio.Whole(7*(set>>c&1))) {
					t.Errorf("Approval of %s: %v", show(p), o)
				}
			}
		}
	}
}

// P11.2

func TestApproval(t *testing.T) {
	lot := []int{2, 1, 0}
	p := of(3, 2, row(1), row(10, 0), row(100, 0, 1), row(1000, 0, 1, 2), row(10000, 0, 2), row(100000, 1), row(200000, 2))
	approval().check(t, p, 1, lot, outcome([]int{11110, 101100, 211000}, 0, []int{2}))
	approval().check(t, p, 3, lot, outcome([]int{11110, 101100, 211000}, 0, []int{2, 1, 0}))
	approval().check(t, of(3, 2, row(9), row(5, 0, 1, 2)), 2, lot, outcome([]int{5, 5, 5}, 0, []int{2, 1}, tie(2, 0, 1, 2), tie(1, 0, 1)))
	approval().check(t, of(3, 2, row(4, 0, 1), row(2, 1)), 3, lot, outcome([]int{4, 6, 0}, 0, []int{1, 0, 2}))
	approval().check(t, of(3, 2, row(4, 0, 2), row(1, 1)), 3, lot, outcome([]int{4, 1, 4}, 0, []int{2, 0, 1}, tie(2, 0, 2)))
}

// P11.3

func TestScore(t *testing.T) {
	lot := []int{1, 2, 0}
	score().check(t, of(3, 3, row(1, 0, 5, 10), row(2, 3, 0, 1)), 3, lot, outcome([]int{6, 5, 12}, 0, []int{2, 0, 1}))
	score().check(t, of(3, 3, row(7, 10, 10, 10)), 2, lot, outcome([]int{70, 70, 70}, 0, []int{1, 2}, tie(1, 0, 1, 2), tie(2, 0, 2)))
	score().check(t, of(3, 3, row(7, 0, 0, 0)), 3, lot, outcome([]int{0, 0, 0}, 0, []int{1, 2, 0}, tie(1, 0, 1, 2), tie(2, 0, 2)))
	score().check(t, of(3, 3, row(1, 0, 0, 1), row(10, 0, 1, 0), row(9, 1, 0, 0)), 1, lot, outcome([]int{9, 10, 1}, 0, []int{1}))
	score().check(t, of(2, 3, row(10, 0, 1), row(1, 10, 0)), 1, []int{0, 1}, outcome([]int{10, 10}, 0, []int{0}, tie(0, 0, 1)))
	score().check(t, of(1, 3, row(1000000, 10)), 1, []int{0}, outcome([]int{10000000}, 0, []int{0}))
	for points := range 11 {
		for c := range 10 {
			marks, had := make([]int, 10), make([]int, 10)
			marks[c], had[c] = points, 3*points
			o, _ := score().checkModel(t, of(10, 3, row(3, marks...)), 1, downFrom(10))
			if want := outcome(had, 0, []int{c}); points > 0 && !same(o, want) {
				t.Errorf("Score of %v: %v; want %v", marks, o, want)
			}
		}
	}
}

// P11.4

func TestBorda(t *testing.T) {
	lot := []int{3, 2, 1, 0}
	for _, c := range []struct {
		marks   []int
		had     []int
		elected []int
		ties    []api.Tie
	}{
		{nil, []int{0, 0, 0, 0}, []int{3, 2, 1, 0}, []api.Tie{tie(3, 0, 1, 2, 3), tie(2, 0, 1, 2), tie(1, 0, 1)}},
		{[]int{1}, []int{0, 15, 0, 0}, []int{1, 3, 2, 0}, []api.Tie{tie(3, 0, 2, 3), tie(2, 0, 2)}},
		{[]int{0, 3}, []int{15, 0, 0, 10}, []int{0, 3, 2, 1}, []api.Tie{tie(2, 1, 2)}},
		{[]int{2, 1, 0}, []int{5, 10, 15, 0}, []int{2, 1, 0, 3}, nil},
		{[]int{2, 1, 0, 3}, []int{5, 10, 15, 0}, []int{2, 1, 0, 3}, nil},
		{[]int{3, 2, 1, 0}, []int{0, 5, 10, 15}, []int{3, 2, 1, 0}, nil},
	} {
		borda().checkSeats(t, of(4, 1, row(5, c.marks...)), lot, outcome(c.had, 0, c.elected, c.ties...))
	}
	borda().check(t, of(4, 1, row(100), row(1, 0), row(1, 0, 1), row(1, 0, 1, 2), row(2, 3, 0)), 4, lot, outcome([]int{13, 4, 1, 6}, 0, []int{0, 3, 1, 2}))
	borda().check(t, of(1, 1, row(3), row(4, 0)), 1, []int{0}, outcome([]int{0}, 0, []int{0}))
	borda().check(t, of(2, 1, row(3), row(4, 0), row(1, 0, 1), row(5, 1)), 1, []int{1, 0}, outcome([]int{5, 5}, 0, []int{1}, tie(1, 0, 1)))
}

// A ranking of so many of ten candidates gives 9, 8, 7 .. points, and none to those that are not on it.
func TestBordaOfTen(t *testing.T) {
	random := rand.New(rand.NewSource(141))
	for ranked := range 11 {
		for range 20 {
			marks, had := random.Perm(10)[:ranked], make([]int, 10)
			for place, c := range marks {
				had[c] = 3 * (9 - place)
			}
			o, e := borda().checkModel(t, of(10, 1, row(3, marks...)), 10, random.Perm(10))
			if want := outcome(had, 0, nil); e != api.OK || !slices.EqualFunc(o.Rounds[0].Had, want.Rounds[0].Had, sameNumber) || !slices.Equal(o.Elected[:ranked], marks) && ranked < 10 {
				t.Errorf("Borda of %v: %v", marks, o)
			}
		}
	}
}

// Seats and ties

// pointing returns a profile in which plurality gives these points.
func pointing(points ...int) api.Profile {
	p := of(len(points), 2)
	for c, n := range points {
		if n > 0 {
			p.Rows = append(p.Rows, row(n, c))
		}
	}
	return p
}

func TestSeats(t *testing.T) {
	for _, c := range []struct {
		name    string
		had     []int
		lot     []int
		elected []int
		ties    []api.Tie
	}{
		{"no tie", []int{3, 9, 5, 7}, []int{0, 1, 2, 3}, []int{1, 3, 2, 0}, nil},
		{"the first of the lot has the least", []int{3, 9, 5, 7}, []int{0, 2, 3, 1}, []int{1, 3, 2, 0}, nil},
		{"a tie for the first seat", []int{9, 3, 5, 9}, []int{2, 3, 1, 0}, []int{3, 0, 2, 1}, []api.Tie{tie(3, 0, 3)}},
		{"a tie for the last but one", []int{3, 9, 5, 3}, []int{3, 1, 2, 0}, []int{1, 2, 3, 0}, []api.Tie{tie(3, 0, 3)}},
		{"a tie in the middle", []int{9, 5, 3, 5}, []int{2, 0, 3, 1}, []int{0, 3, 1, 2}, []api.Tie{tie(3, 1, 3)}},
		{"two ties", []int{5, 2, 2, 5}, []int{2, 0, 1, 3}, []int{0, 3, 2, 1}, []api.Tie{tie(0, 0, 3), tie(2, 1, 2)}},
		{"ties in a row", []int{4, 4, 9, 4}, []int{1, 2, 3, 0}, []int{2, 1, 3, 0}, []api.Tie{tie(1, 0, 1, 3), tie(3, 0, 3)}},
		{"all tied", []int{4, 4, 4, 4}, []int{2, 0, 3, 1}, []int{2, 0, 3, 1}, []api.Tie{tie(2, 0, 1, 2, 3), tie(0, 0, 1, 3), tie(3, 1, 3)}},
		{"all without points", []int{0, 0, 0, 0}, []int{2, 0, 3, 1}, []int{2, 0, 3, 1}, []api.Tie{tie(2, 0, 1, 2, 3), tie(0, 0, 1, 3), tie(3, 1, 3)}},
		{"some without points", []int{0, 0, 1, 0}, []int{3, 2, 1, 0}, []int{2, 3, 1, 0}, []api.Tie{tie(3, 0, 1, 3), tie(1, 0, 1)}},
	} {
		t.Run(c.name, func(t *testing.T) {
			plurality().checkSeats(t, pointing(c.had...), c.lot, outcome(c.had, 0, c.elected, c.ties...))
		})
	}
}

// All of up to ten candidates are tied for every seat, among fewer and fewer of them; for the last one there is no tie.
func TestAllTied(t *testing.T) {
	random := rand.New(rand.NewSource(142))
	for cands := 1; cands <= 10; cands++ {
		all := upTo(cands)
		same := make([]int, cands)
		for c := range same {
			same[c] = 10
		}
		profiles := []api.Profile{of(cands, 2), of(cands, 2, row(6)), of(cands, 2, row(1000000)), of(cands, 3), of(cands, 3, row(1, make([]int, cands)...)), of(cands, 3, row(1, same...)), of(cands, 1), of(cands, 1, row(9))}
		if cands > 1 {
			profiles = append(profiles, of(cands, 2, row(6, all...)), of(cands, 1, row(5, all...), row(5, downFrom(cands)...)))
		}
		for _, p := range profiles {
			for _, m := range methods() {
				if m.kind != p.Kind {
					continue
				}
				lot := random.Perm(cands)
				for seats := 1; seats <= cands; seats++ {
					checkAllTied(t, m, p, seats, lot)
				}
			}
		}
	}
}

func checkAllTied(t *testing.T, m method, p api.Profile, seats int, lot []int) {
	t.Helper()
	o, e := m.checkModel(t, p, seats, lot)
	if e != api.OK || !slices.Equal(o.Elected, lot[:seats]) || len(o.Ties) != min(seats, p.Cands-1) {
		t.Errorf("%s of %s, %d seats, lot %v: %v, %d", m.name, show(p), seats, lot, o, int(e))
	}
	for i, x := range o.Ties {
		if left := slices.Sorted(slices.Values(lot[i:])); !slices.Equal(x.Among, left) || x.Chosen != lot[i] {
			t.Errorf("%s of %s, %d seats, lot %v: tie %d is %v", m.name, show(p), seats, lot, i, x)
		}
	}
}

// Edges

func TestNoRows(t *testing.T) {
	for _, m := range methods() {
		for cands := 1; cands <= 10; cands++ {
			none := outcome(make([]int, cands), 0, []int{cands - 1}, tie(cands-1, upTo(cands)...))
			if cands == 1 {
				none.Ties = nil
			}
			m.check(t, of(cands, m.kind), 1, downFrom(cands), none)
			p, e := profile.New(cands, m.kind)
			if e != api.OK {
				t.Fatal(int(e))
			}
			m.check(t, p, 1, downFrom(cands), none)
		}
	}
}

func TestBlankBallots(t *testing.T) {
	for _, many := range []int{1, 2, 1000000} {
		none := []api.Tie{tie(1, 0, 1, 2)}
		plurality().check(t, of(3, 2, row(many)), 1, []int{1, 2, 0}, outcome([]int{0, 0, 0}, many, []int{1}, none...))
		approval().check(t, of(3, 2, row(many)), 1, []int{1, 2, 0}, outcome([]int{0, 0, 0}, 0, []int{1}, none...))
		borda().check(t, of(3, 1, row(many)), 1, []int{1, 2, 0}, outcome([]int{0, 0, 0}, 0, []int{1}, none...))
		score().check(t, of(3, 3, row(many, 0, 0, 0)), 1, []int{1, 2, 0}, outcome([]int{0, 0, 0}, 0, []int{1}, none...))
		score().checkError(t, of(3, 3, row(many)), 1, []int{1, 2, 0}, api.ErrBad)
	}
}

func TestOneCandidate(t *testing.T) {
	lot := []int{0}
	plurality().check(t, of(1, 2, row(3), row(4, 0)), 1, lot, outcome([]int{4}, 3, []int{0}))
	approval().check(t, of(1, 2, row(3), row(4, 0)), 1, lot, outcome([]int{4}, 0, []int{0}))
	score().check(t, of(1, 3, row(3, 0), row(4, 7)), 1, lot, outcome([]int{28}, 0, []int{0}))
	borda().check(t, of(1, 1, row(3), row(4, 0)), 1, lot, outcome([]int{0}, 0, []int{0}))
	for _, m := range methods() {
		m.check(t, of(1, m.kind), 1, lot, outcome([]int{0}, 0, []int{0}))
		for _, seats := range []int{-1, 0, 2, 10} {
			m.checkError(t, of(1, m.kind), seats, lot, api.ErrArg)
		}
	}
}

func TestTenCandidates(t *testing.T) {
	had := []int{3, 1, 4, 1, 5, 9, 2, 6, 5, 3}
	elected := []int{5, 7, 4, 8, 2, 0, 9, 6, 1, 3}
	ties := []api.Tie{tie(4, 4, 8), tie(0, 0, 9), tie(1, 1, 3)}
	want := outcome(had, 0, elected, ties...)
	plurality().check(t, pointing(had...), 10, upTo(10), want)
	approval().check(t, pointing(had...), 10, upTo(10), want)
	score().check(t, of(10, 3, row(1, had...)), 10, upTo(10), want)
	borda().check(t, of(10, 1, row(1, elected...)), 10, upTo(10), outcome([]int{4, 1, 5, 0, 7, 9, 2, 8, 6, 3}, 0, elected))
}

// As many ballots, and as many rows, as the limits allow.
func TestAtTheLimits(t *testing.T) {
	plurality().check(t, of(2, 2, row(1000000, 1)), 1, []int{0, 1}, outcome([]int{0, 1000000}, 0, []int{1}))
	plurality().check(t, of(2, 2, row(499999, 0), row(1, 0, 1), row(500000, 1)), 2, []int{0, 1}, outcome([]int{499999, 500000}, 1, []int{1, 0}))
	plurality().check(t, of(2, 2, row(1000000, 0, 1)), 1, []int{0, 1}, outcome([]int{0, 0}, 1000000, []int{0}, tie(0, 0, 1)))
	approval().check(t, of(10, 2, row(999999, upTo(10)...), row(1, 9)), 1, upTo(10), outcome([]int{999999, 999999, 999999, 999999, 999999, 999999, 999999, 999999, 999999, 1000000}, 0, []int{9}))
	score().check(t, of(2, 3, row(1, 10, 9), row(999999, 10, 10)), 2, []int{1, 0}, outcome([]int{10000000, 9999999}, 0, []int{0, 1}))
	borda().check(t, of(10, 1, row(1000000, downFrom(10)...)), 2, upTo(10), outcome([]int{0, 1000000, 2000000, 3000000, 4000000, 5000000, 6000000, 7000000, 8000000, 9000000}, 0, []int{9, 8}))
	for _, m := range methods() {
		p := fullProfile(m.kind)
		if e := profile.Check(p); e != api.OK || len(p.Rows) != 64 {
			t.Fatal(int(e))
		}
		for seats := 1; seats <= 10; seats++ {
			m.checkModel(t, p, seats, downFrom(10))
		}
	}
}

// fullProfile returns a profile with 64 rows and a million ballots.
func fullProfile(kind uint8) api.Profile {
	random := rand.New(rand.NewSource(143))
	p := of(10, kind)
	for len(p.Rows) < 64 {
		p.Rows = append(p.Rows, row(15625, randomMarks(random, 10, kind)...))
		slices.SortFunc(p.Rows, func(r, s api.Row) int { return slices.Compare(r.Marks, s.Marks) })
		p.Rows = slices.CompactFunc(p.Rows, func(r, s api.Row) bool { return slices.Equal(r.Marks, s.Marks) })
	}
	return p
}

// Errors

// wrongProfiles returns, for each error of profile.Check, profiles of the kind that have it.
func wrongProfiles(kind uint8) map[api.Errno][]api.Profile {
	rows := map[uint8][]api.Row{1: {row(2, 0), row(2, 1, 0)}, 2: {row(2, 0), row(2, 1)}, 3: {row(2, 0, 1), row(2, 1, 0)}}[kind]
	first, second := rows[0], rows[1]
	great := func(r api.Row, many int) api.Row { return api.Row{Marks: r.Marks, Many: many} }
	wrong := map[api.Errno][]api.Profile{
		api.ErrFull: {of(2, kind, make([]api.Row, 65)...), of(2, kind, slices.Repeat(rows, 33)...), of(0, 9, make([]api.Row, 65)...)},
		api.ErrMany: {of(2, kind, great(first, 1000001)), of(2, kind, first, great(second, 999999)), of(2, kind, great(first, math.MaxInt), second), of(2, kind, great(first, math.MaxInt), great(second, math.MaxInt)), of(2, kind, first, great(second, 1<<32))},
		api.ErrBad:  {of(2, kind, second, first), of(2, kind, first, first), of(2, kind, row(1, 2)), of(2, kind, row(1, -1, 0)), of(2, kind, row(1, 0, 11)), of(2, kind, row(1, 1, 1, 1)), of(2, kind, row(1, 0, 1<<32+1))},
	}
	for _, many := range []int{0, -1, math.MinInt, -1 << 32} {
		wrong[api.ErrBad] = append(wrong[api.ErrBad], of(2, kind, great(first, many)), of(2, kind, first, great(second, many)))
	}
	for _, cands := range []int{0, -1, 11, 12, math.MaxInt, math.MinInt, 1<<32 + 2, 256 + 2} {
		wrong[api.ErrBad] = append(wrong[api.ErrBad], of(cands, kind), of(cands, kind, first))
	}
	if kind == 2 {
		wrong[api.ErrBad] = append(wrong[api.ErrBad], of(2, kind, row(1, 1, 0)), of(3, kind, row(1, 0, 2, 1)))
	}
	if kind == 3 {
		wrong[api.ErrBad] = append(wrong[api.ErrBad], of(3, kind, rows...), of(1, kind, rows...), of(2, kind, row(1)), of(2, kind, row(1, 0)))
	} else {
		wrong[api.ErrBad] = append(wrong[api.ErrBad], of(1, kind, rows...), of(2, kind, row(1, 0, 0)))
	}
	return wrong
}

func TestWrongProfiles(t *testing.T) {
	for _, m := range methods() {
		for want, l := range wrongProfiles(m.kind) {
			for _, p := range l {
				if e := profile.Check(p); e != want {
					t.Errorf("the error of %s is %d; want %d", show(p), int(e), int(want))
				}
				m.checkError(t, p, 1, []int{0, 1}, api.ErrBad)
				m.checkError(t, p, 1, upTo(min(max(p.Cands, 0), 20)), api.ErrBad)
				m.checkError(t, p, 0, nil, api.ErrBad)
			}
		}
	}
}

func TestWrongKinds(t *testing.T) {
	for _, m := range methods() {
		for kind := range 256 {
			for _, p := range []api.Profile{of(2, uint8(kind)), of(2, uint8(kind), row(1, 0, 1)), of(1, uint8(kind), row(1, 0))} {
				if uint8(kind) == m.kind {
					m.checkModel(t, p, 1, upTo(p.Cands))
					continue
				}
				m.checkError(t, p, 1, upTo(p.Cands), api.ErrBad)
			}
		}
		for kind := uint8(1); kind <= 3; kind++ {
			if p := fullProfile(kind); kind != m.kind {
				m.checkError(t, p, 1, upTo(10), api.ErrBad)
			}
		}
	}
}

func TestWrongSeats(t *testing.T) {
	for _, m := range methods() {
		for cands := 1; cands <= 10; cands++ {
			p := of(cands, m.kind)
			for _, seats := range append(wilds(), cands, cands+1, cands-1, cands+1<<32, cands-1<<32, cands+256, -cands) {
				if seats >= 1 && seats <= cands {
					m.checkModel(t, p, seats, upTo(cands))
					if o, e := m.do(p, seats, upTo(cands)); e != api.OK || len(o.Elected) != seats {
						t.Errorf("%s, %d seats of %d: %v, %d", m.name, seats, cands, o, int(e))
					}
					continue
				}
				m.checkError(t, p, seats, upTo(cands), api.ErrArg)
			}
		}
	}
}

// wrongLots are no permutations of so many candidates.
func wrongLots(cands int) [][]int {
	l := [][]int{nil, {}, upTo(cands)[:0], upTo(cands)[:cands-1], upTo(cands + 1)[1:], upTo(cands + 1), downFrom(cands + 1), append(upTo(cands), 0), append(upTo(cands), -1), append(upTo(cands), cands-1), upTo(1000), slices.Repeat([]int{-1}, cands), slices.Repeat(upTo(cands), 2)}
	if cands > 1 {
		l = append(l, make([]int, cands), slices.Repeat([]int{cands - 1}, cands))
	}
	for at := range cands {
		for _, wrong := range []int{-1, cands, at - cands, cands + 1, 10, 11, 64, math.MaxInt, math.MinInt, at + 1<<32, at + 256, at - 256} {
			if wrong < 0 || wrong >= cands {
				l = append(l, slices.Concat(upTo(cands)[:at], []int{wrong}, upTo(cands)[at+1:]))
			}
		}
		for c := range cands {
			if c != at {
				twice := downFrom(cands)
				twice[at] = twice[c]
				l = append(l, twice)
			}
		}
	}
	return l
}

func TestWrongLots(t *testing.T) {
	for _, m := range methods() {
		for cands := 1; cands <= 10; cands++ {
			full := of(cands, m.kind)
			if cands == 10 {
				full = fullProfile(m.kind)
			}
			for _, lot := range wrongLots(cands) {
				m.checkError(t, of(cands, m.kind), 1, lot, api.ErrArg)
				m.checkError(t, full, cands, lot, api.ErrArg)
			}
		}
	}
}

// The model

// counted returns all profiles of these ballots, each of which occurs up to most times.
func counted(cands int, kind uint8, most int, ballots [][]int) []api.Profile {
	slices.SortFunc(ballots, slices.Compare)
	all := []api.Profile{of(cands, kind)}
	for _, marks := range ballots {
		for _, p := range all {
			for many := 1; many <= most; many++ {
				all = append(all, of(cands, kind, slices.Concat(p.Rows, []api.Row{row(many, marks...)})...))
			}
		}
	}
	return all
}

// smallProfiles returns all profiles of few ballots among few candidates.
func smallProfiles() []api.Profile {
	var sets, scores [][]int
	for set := range 8 {
		sets = append(sets, slices.DeleteFunc(upTo(3), func(c int) bool { return set>>c&1 == 0 }))
	}
	for _, x := range []int{0, 1, 2} {
		for _, y := range []int{0, 1, 10} {
			scores = append(scores, []int{x, y})
		}
	}
	return slices.Concat(
		counted(3, 2, 1, sets),
		counted(2, 2, 3, [][]int{{}, {0}, {0, 1}, {1}}),
		counted(2, 3, 1, scores),
		counted(2, 1, 2, [][]int{{}, {0}, {0, 1}, {1}, {1, 0}}),
		counted(3, 1, 1, [][]int{{}, {0}, {1}, {0, 1}, {2, 1}, {1, 2, 0}, {2, 0, 1}, {0, 2, 1}}),
	)
}

func TestSmallProfilesHaveTheModelsOutcomes(t *testing.T) {
	outcomes, tied := 0, 0
	for _, p := range smallProfiles() {
		if e := profile.Check(p); e != api.OK {
			t.Fatal(show(p), int(e))
		}
		for _, m := range methods() {
			if m.kind != p.Kind {
				continue
			}
			for _, lot := range lots(p.Cands) {
				for seats := range p.Cands + 2 {
					o, _ := m.checkModel(t, p, seats, lot)
					outcomes += len(o.Rounds)
					tied += len(o.Ties)
				}
			}
		}
	}
	if outcomes < 10000 || tied < 5000 {
		t.Errorf("%d outcomes, %d ties", outcomes, tied)
	}
}

func TestRandomProfilesHaveTheModelsOutcomes(t *testing.T) {
	random := rand.New(rand.NewSource(144))
	outcomes, tied := 0, 0
	for range 10000 {
		for _, m := range methods() {
			p := randomProfile(random, 1+random.Intn(10), m.kind)
			if random.Intn(2) == 0 {
				p = evened(random, p)
			}
			o, e := m.checkModel(t, p, 1+random.Intn(p.Cands), random.Perm(p.Cands))
			if e != api.OK {
				t.Fatal(show(p), int(e))
			}
			outcomes++
			tied += len(o.Ties)
		}
	}
	if outcomes != 40000 || tied < 10000 {
		t.Errorf("%d outcomes, %d ties", outcomes, tied)
	}
}

// The outcome

// The form of every outcome, whatever it says.
func TestTheWholeOutcome(t *testing.T) {
	random := rand.New(rand.NewSource(145))
	for range 3000 {
		for _, m := range methods() {
			p := evened(random, randomProfile(random, 1+random.Intn(10), m.kind))
			seats, lot := 1+random.Intn(p.Cands), random.Perm(p.Cands)
			o, e := m.do(p, seats, lot)
			if e != api.OK || len(o.Elected) != seats || len(o.Rounds) != 1 {
				t.Fatalf("%s of %s: %v, %d", m.name, show(p), o, int(e))
			}
			r := o.Rounds[0]
			if len(r.Had) != p.Cands || !slices.Equal(r.Elected, o.Elected) || len(r.Out) != 0 || ratio.Check(r.Lost) != api.OK {
				t.Errorf("%s of %s: the round is %v", m.name, show(p), r)
			}
			if slices.ContainsFunc(r.Had, func(x api.Ratio) bool { return ratio.Check(x) != api.OK }) {
				t.Errorf("%s of %s: the points are %v", m.name, show(p), r.Had)
			}
			checkTies(t, o, lot)
		}
	}
}

// checkTies holds the ties of an outcome of several candidates against its seats: each has the candidate of a later seat than the one before, and is among candidates without a seat, in order.
func checkTies(t *testing.T, o api.Outcome, lot []int) {
	t.Helper()
	next := 0
	for _, x := range o.Ties {
		at := slices.Index(o.Elected, x.Chosen)
		if at < next {
			t.Errorf("of %v, with lot %v, a tie is for seat %d", o, lot, at)
		}
		next = at + 1
		if len(x.Among) < 2 || !slices.IsSorted(x.Among) || !slices.Contains(x.Among, x.Chosen) || len(slices.Compact(slices.Clone(x.Among))) < len(x.Among) {
			t.Errorf("of %v, with lot %v, a tie is among %v", o, lot, x.Among)
		}
		for _, c := range x.Among {
			if slices.Contains(o.Elected[:max(at, 0)], c) || slices.Index(lot, c) < slices.Index(lot, x.Chosen) {
				t.Errorf("of %v, with lot %v, a tie is among %v", o, lot, x.Among)
			}
		}
	}
}
