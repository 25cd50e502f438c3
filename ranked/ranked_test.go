package ranked_test

import (
	"math"
	"math/rand"
	"slices"
	"testing"

	"suffrage/api"
	"suffrage/pairs"
	"suffrage/profile"
	"suffrage/ranked"
	"suffrage/ratio"
)

// P14.2

func check(t *testing.T, p api.Profile, lot []int, want api.Outcome) {
	t.Helper()
	if o, e := ranked.Count(p, 1, lot); !same(o, want) || e != api.OK {
		t.Errorf("the count of %s, lot %v: %v, %d; want %v", show(p), lot, o, int(e), want)
	}
	if o, e := modelCount(p, 1, lot); !same(o, want) || e != api.OK {
		t.Errorf("the model's count of %s, lot %v: %v, %d; want %v", show(p), lot, o, int(e), want)
	}
}

func checkError(t *testing.T, p api.Profile, seats int, lot []int, want api.Errno) {
	t.Helper()
	if o, e := ranked.Count(p, seats, lot); !same(o, api.Outcome{}) || e != want {
		t.Errorf("the count of %s, %d seats, lot %v: %v, %d; want nothing, %d", show(p), seats, lot[:min(len(lot), 50)], o, int(e), int(want))
	}
}

func checkCount(t *testing.T, p api.Profile, seats int, lot []int) (api.Outcome, api.Errno) {
	t.Helper()
	o, e := ranked.Count(p, seats, lot)
	want, wantE := modelCount(p, seats, lot)
	if !same(o, want) || e != wantE {
		t.Errorf("the count of %s, %d seats, lot %v: %v, %d; want %v, %d", show(p), seats, lot, o, int(e), want, int(wantE))
	}
	return o, e
}

// matrixOf returns the matrix of a valid profile.
func matrixOf(t *testing.T, p api.Profile) api.Pairs {
	t.Helper()
	m, e := pairs.Of(p)
	if e != api.OK {
		t.Fatal(show(p), int(e))
	}
	return m
}

// theExample is the profile of the document's example.
func theExample() api.Profile { return ranks(3, row(3, 0, 1, 2), row(2, 1, 2, 0), row(2, 2, 0, 1)) }

func TestTheExample(t *testing.T) {
	for _, lot := range lots(3) {
		check(t, theExample(), lot, outcome([]int{1, 1, 0}, 0))
	}
}

// fiveCandidates are the 45 voters of Schulze's example, and twentySeven those of an encyclopedia's article on ranked pairs, with w, x, y and z as 0 to 3.
func fiveCandidates() api.Profile {
	return sorted(5, row(5, 0, 2, 1, 4, 3), row(5, 0, 3, 4, 2, 1), row(8, 1, 4, 3, 0, 2), row(3, 2, 0, 1, 4, 3), row(7, 2, 0, 4, 1, 3), row(2, 2, 1, 0, 3, 4), row(7, 3, 2, 4, 1, 0), row(8, 4, 1, 0, 3, 2))
}

func twentySeven() api.Profile {
	return sorted(4, row(7, 0, 1, 3, 2), row(2, 0, 2, 1, 3), row(4, 1, 2, 3, 0), row(5, 1, 3, 0, 2), row(1, 2, 0, 1, 3), row(8, 2, 3, 0, 1))
}

// tennessee is the example of four cities; one of them beats all others.
func tennessee() api.Profile {
	return sorted(4, row(42, 0, 1, 2, 3), row(26, 1, 2, 3, 0), row(15, 2, 3, 1, 0), row(17, 3, 2, 1, 0))
}

func TestPublishedExamples(t *testing.T) {
	for _, lot := range lots(5) {
		check(t, fiveCandidates(), lot, outcome([]int{2, 1, 2, 0, 2}, 0))
	}
	for _, lot := range lots(4) {
		check(t, twentySeven(), lot, outcome([]int{2, 2, 1, 0}, 0))
		check(t, tennessee(), lot, outcome([]int{0, 3, 2, 1}, 1))
	}
}

func TestFewCandidates(t *testing.T) {
	lot := []int{2, 1, 0}
	for _, c := range []struct {
		rows   []api.Row
		had    []int
		winner int
		ties   []api.Tie
	}{
		{[]api.Row{row(1, 0, 1, 2)}, []int{2, 1, 0}, 0, nil},
		{[]api.Row{row(5, 2, 1, 0)}, []int{0, 1, 2}, 2, nil},
		{[]api.Row{row(4, 1)}, []int{0, 2, 0}, 1, nil},
		{[]api.Row{row(1, 0, 1), row(1, 1, 0)}, []int{1, 1, 0}, 1, []api.Tie{tie(1, 0, 1)}},
		{[]api.Row{row(1, 0, 1), row(1, 1, 2)}, []int{0, 1, 0}, 1, []api.Tie{tie(1, 0, 1)}},
		{[]api.Row{row(3, 0, 1, 2), row(3, 2, 0, 1)}, []int{1, 0, 0}, 2, []api.Tie{tie(2, 0, 2)}},
		{[]api.Row{row(7, 0, 1, 2), row(7, 2, 1, 0)}, []int{0, 0, 0}, 2, []api.Tie{tie(2, 0, 1, 2)}},
		// Cycles of equal links: the last in the lot, 0, keeps its link the least.
		{[]api.Row{row(4, 0, 1, 2), row(4, 1, 2, 0), row(4, 2, 0, 1)}, []int{0, 1, 1}, 1, nil},
		{[]api.Row{row(5, 0, 1, 2), row(4, 1, 2, 0), row(4, 2, 0, 1)}, []int{1, 1, 0}, 0, nil},
		{[]api.Row{row(4, 0, 1, 2), row(5, 1, 2, 0), row(5, 2, 0, 1)}, []int{0, 1, 1}, 1, nil},
		{[]api.Row{row(4, 0, 1, 2), row(5, 1, 2, 0), row(6, 2, 0, 1)}, []int{1, 0, 1}, 2, nil},
	} {
		check(t, ranks(3, c.rows...), lot, outcome(c.had, c.winner, c.ties...))
	}
	check(t, ranks(2, row(500000, 0), row(499999, 1)), []int{1, 0}, outcome([]int{1, 0}, 0))
	check(t, ranks(2, row(499999, 0), row(500000, 1)), []int{0, 1}, outcome([]int{0, 1}, 1))
	check(t, ranks(2, row(500000, 0), row(500000, 1)), []int{1, 0}, outcome([]int{0, 0}, 1, tie(1, 0, 1)))
}

// The links are ordered by their margins first, and not by how many ballots are for them.
func TestMarginsAreNotBallots(t *testing.T) {
	p := ranks(3, row(4, 0, 1, 2), row(1, 1), row(4, 1, 2, 0), row(3, 2), row(4, 2, 0, 1))
	// The links of 8, 9 and 11 ballots have margins of 3, 2 and 7: by the ballots, 1 would be elected.
	if want := matrix([]int{0, 8, 4}, []int{5, 0, 9}, []int{11, 7, 0}); matrixOf(t, p) != want {
		t.Fatalf("the matrix is %v", matrixOf(t, p))
	}
	for _, lot := range lots(3) {
		check(t, p, lot, outcome([]int{1, 0, 1}, 2))
	}
	// Equal margins, of which the first has the most ballots for it: 0 to 1.
	q := ranks(3, row(1, 0), row(4, 0, 1, 2), row(1, 1), row(4, 1, 2, 0), row(2, 2), row(3, 2, 0, 1))
	if m := matrixOf(t, q); m != matrix([]int{0, 8, 5}, []int{5, 0, 9}, []int{9, 5, 0}) {
		t.Fatalf("the matrix is %v", m)
	}
	for _, lot := range lots(3) {
		check(t, q, lot, outcome([]int{0, 1, 1}, 1))
	}
}

// The lot

// The lot chooses among the undefeated, and no one else, wherever it has the others.
func TestTheLot(t *testing.T) {
	for _, c := range []struct {
		name       string
		p          api.Profile
		had        []int
		undefeated []int
	}{
		{"one", ranks(4, row(1, 0), row(2, 3, 1)), []int{1, 2, 0, 3}, []int{3}},
		{"two of four", ranks(4, row(1, 1, 3), row(1, 3, 1)), []int{0, 2, 0, 2}, []int{1, 3}},
		{"three of four", ranks(4, row(1, 0, 2, 3), row(1, 3, 2, 0)), []int{1, 0, 1, 1}, []int{0, 2, 3}},
		{"all four", ranks(4, row(3)), []int{0, 0, 0, 0}, []int{0, 1, 2, 3}},
		{"level though one beats more", ranks(4, row(1, 0, 2, 3), row(1, 1)), []int{2, 0, 1, 0}, []int{0, 1}},
	} {
		t.Run(c.name, func(t *testing.T) {
			for _, lot := range lots(4) {
				first := slices.IndexFunc(lot, func(x int) bool { return slices.Contains(c.undefeated, x) })
				if len(c.undefeated) == 1 {
					check(t, c.p, lot, outcome(c.had, lot[first]))
				} else {
					check(t, c.p, lot, outcome(c.had, lot[first], tie(lot[first], c.undefeated...)))
				}
			}
		})
	}
}

// Who is first in the lot, and defeated, is not elected.
func TestTheFirstInTheLotIsDefeated(t *testing.T) {
	for cands := 2; cands <= 10; cands++ {
		for winner := range cands {
			p := ranks(cands, row(1, winner))
			had := make([]int, cands)
			had[winner] = cands - 1
			for _, first := range others(cands, winner) {
				check(t, p, append([]int{first}, others(cands, first)...), outcome(had, winner))
				check(t, p, append([]int{first}, reversed(others(cands, first))...), outcome(had, winner))
			}
		}
	}
}

// Where the lot says which link comes first, this decides who is elected, and is no tie.
func TestTheLotInTheOrderIsNoTie(t *testing.T) {
	p := ranks(3, row(4, 0, 1, 2), row(4, 1, 2, 0), row(4, 2, 0, 1))
	for _, lot := range lots(3) {
		// The links from the first two in the lot are locked, of which one leads to the other.
		had := []int{1, 1, 1}
		had[lot[2]] = 0
		winner := (lot[2] + 1) % 3 // to whom the link that is not locked leads
		check(t, p, lot, outcome(had, winner))
	}
	// Not the candidate that comes first in the lot, if the one that comes second beats it.
	check(t, p, []int{1, 0, 2}, outcome([]int{1, 1, 0}, 0))
	check(t, p, []int{0, 1, 2}, outcome([]int{1, 1, 0}, 0))
	// A cycle, and one who is level with all: there is a tie as well, and it has only them.
	p = sorted(4, row(1, 3, 0, 1, 2), row(1, 3, 1, 2, 0), row(1, 3, 2, 0, 1), row(1, 0, 1, 2, 3), row(1, 1, 2, 0, 3), row(1, 2, 0, 1, 3))
	check(t, p, []int{1, 0, 3, 2}, outcome([]int{1, 1, 0, 0}, 0, tie(0, 0, 3)))
	check(t, p, []int{2, 0, 1, 3}, outcome([]int{1, 0, 1, 0}, 2, tie(2, 2, 3)))
	check(t, p, []int{3, 1, 2, 0}, outcome([]int{0, 1, 1, 0}, 3, tie(3, 1, 3)))
}

// Where the lot says which links are locked, it may decide between one who is undefeated and a tie.
func TestTheLotDecidesBetweenLinks(t *testing.T) {
	m := linking(link(0, 1, 1, 1), link(0, 2, 1, 1), link(1, 3, 2, 2), link(2, 3, 2, 2), link(3, 0, 1, 1))
	p := related(t, m, 4)
	for _, lot := range lots(4) {
		o, _ := checkCount(t, p, 1, lot)
		// If 0 comes before 3, both links from it are locked, and the one from 3 is not; otherwise that one is, and neither of them.
		want := outcome([]int{2, 1, 1, 0}, 0)
		if place(lot, 3) < place(lot, 0) {
			first := lot[slices.IndexFunc(lot, func(c int) bool { return c == 1 || c == 2 })]
			want = outcome([]int{0, 1, 1, 1}, first, tie(first, 1, 2))
		}
		if !same(o, want) {
			t.Errorf("lot %v: %v; want %v", lot, o, want)
		}
	}
}

// Level ones behind others are no tie.
func TestOthersAreLevel(t *testing.T) {
	p := ranks(5, row(2, 4), row(1, 4, 0), row(1, 4, 1))
	check(t, p, upTo(5), outcome([]int{2, 2, 0, 0, 4}, 4))
}

// Edges

func TestNoRows(t *testing.T) {
	for cands := 1; cands <= 10; cands++ {
		ties := []api.Tie{tie(cands-1, upTo(cands)...)}
		if cands == 1 {
			ties = nil
		}
		p, e := profile.New(cands, 1)
		if e != api.OK {
			t.Fatal(int(e))
		}
		for _, p := range []api.Profile{p, ranks(cands), ranks(cands, row(1)), ranks(cands, row(1000000))} {
			check(t, p, downFrom(cands), outcome(make([]int, cands), cands-1, ties...))
		}
	}
}

// Blank ballots change nothing.
func TestBlankBallots(t *testing.T) {
	p := theExample()
	p.Rows = append([]api.Row{row(900000)}, p.Rows...)
	check(t, p, []int{1, 2, 0}, outcome([]int{1, 1, 0}, 0))
}

func TestOneCandidateAlone(t *testing.T) {
	for _, p := range []api.Profile{ranks(1), ranks(1, row(7)), ranks(1, row(7, 0)), ranks(1, row(999999), row(1, 0)), ranks(1, row(1000000, 0))} {
		check(t, p, []int{0}, outcome([]int{0}, 0))
		for _, seats := range []int{-1, 0, 2, 10} {
			checkError(t, p, seats, []int{0}, api.ErrArg)
		}
	}
}

func TestTenCandidates(t *testing.T) {
	order := []int{5, 7, 4, 8, 2, 0, 9, 6, 1, 3}
	had := make([]int, 10)
	for place, c := range order {
		had[c] = 9 - place
	}
	check(t, ranks(10, row(1, order...)), upTo(10), outcome(had, 5))
	check(t, ranks(10, row(1000000, order...)), downFrom(10), outcome(had, 5))
	// All ten in a circle: each beats the next four, by 8, 6, 4 and 2, and is level with the fifth.
	var circle []api.Row
	for c := range 10 {
		circle = append(circle, row(1, append(upTo(10)[c:], upTo(c)...)...))
	}
	// By the lot, the links from 9 to 0 and around it come first of those of their margins: the last is that from 0 to 1.
	check(t, ranks(10, circle...), downFrom(10), outcome([]int{0, 4, 4, 4, 4, 4, 4, 3, 2, 1}, 1))
	// With one more ballot there are links to the fifth as well.
	circle[3].Many = 2
	o, _ := checkCount(t, ranks(10, circle...), 1, downFrom(10))
	if !slices.Equal(o.Elected, []int{3}) || len(o.Ties) > 0 {
		t.Errorf("the circle elects %v, with ties %v", o.Elected, o.Ties)
	}
}

// As many ballots, and as many rows, as the limits allow.
func TestAtTheLimits(t *testing.T) {
	check(t, ranks(2, row(1000000, 1)), []int{0, 1}, outcome([]int{0, 1}, 1))
	check(t, ranks(3, row(333334, 0, 1, 2), row(333333, 1, 2, 0), row(333333, 2, 0, 1)), []int{2, 0, 1}, outcome([]int{1, 1, 0}, 0))
	check(t, ranks(3, row(333333, 0, 1, 2), row(333333, 1, 2, 0), row(333333, 2, 0, 1)), []int{1, 2, 0}, outcome([]int{0, 1, 1}, 1))
	check(t, ranks(10, row(1, upTo(10)...), row(999999, downFrom(10)...)), upTo(10), outcome(upTo(10), 9))
	for _, p := range []api.Profile{fullProfile(1), unevenProfile()} {
		if many, e := profile.Many(p); e != api.OK || many != 1000000 || len(p.Rows) != 64 {
			t.Fatal(many, int(e))
		}
		for _, lot := range [][]int{upTo(10), downFrom(10), {3, 1, 4, 0, 5, 9, 2, 6, 8, 7}} {
			checkCount(t, p, 1, lot)
		}
	}
}

// fullProfile returns a profile with 64 rows and a million ballots.
func fullProfile(kind uint8) api.Profile {
	random := rand.New(rand.NewSource(321))
	p := of(10, kind)
	for len(p.Rows) < 64 {
		p.Rows = append(p.Rows, row(15625, randomMarks(random, 10, kind)...))
		slices.SortFunc(p.Rows, func(r, s api.Row) int { return slices.Compare(r.Marks, s.Marks) })
		p.Rows = slices.CompactFunc(p.Rows, func(r, s api.Row) bool { return slices.Equal(r.Marks, s.Marks) })
	}
	return p
}

// unevenProfile is a full one in which a row has almost all ballots.
func unevenProfile() api.Profile {
	p := fullProfile(1)
	for i := range p.Rows {
		p.Rows[i].Many = 1
	}
	p.Rows[40].Many = 999937
	return p
}

// Errors

// wrongProfiles returns, for each error of profile.Check, profiles of rankings that have it, and others that have it whatever their kind.
func wrongProfiles() map[api.Errno][]api.Profile {
	first, second := row(2, 0), row(2, 1, 0)
	great := func(r api.Row, many int) api.Row { return api.Row{Marks: r.Marks, Many: many} }
	wrong := map[api.Errno][]api.Profile{
		api.ErrFull: {ranks(2, make([]api.Row, 65)...), ranks(2, slices.Repeat([]api.Row{first, second}, 33)...), of(0, 9, make([]api.Row, 65)...), ranks(10, append(fullProfile(1).Rows, row(1, 9, 8, 7, 6, 5, 4, 3, 2, 1, 0))...)},
		api.ErrMany: {ranks(2, great(first, 1000001)), ranks(2, first, great(second, 999999)), ranks(2, great(first, math.MaxInt), second), ranks(2, great(first, math.MaxInt), great(second, math.MaxInt)), ranks(2, first, great(second, 1<<32)), of(2, 2, row(1000001, 1)), ranks(2, row(1000001))},
		api.ErrBad: {{}, of(2, 0), of(2, 4), of(2, 255), ranks(2, second, first), ranks(2, first, first), ranks(2, row(1, 2)), ranks(2, row(1, -1, 0)), ranks(2, row(1, 0, 11)), ranks(2, row(1, 1, 1)), ranks(2, row(1, 0, 1, 0)), ranks(2, row(1, 0, 1<<32+1)),
			ranks(1, first, second), ranks(2, row(1), row(1)), of(2, 2, row(1, 1, 0)), of(2, 3, row(1, 1)), of(2, 3, row(1, 0, 11))},
	}
	for _, many := range []int{0, -1, math.MinInt, -1 << 32} {
		wrong[api.ErrBad] = append(wrong[api.ErrBad], ranks(2, great(first, many)), ranks(2, first, great(second, many)))
	}
	for _, cands := range []int{0, -1, 11, 12, math.MaxInt, math.MinInt, 1<<32 + 2, 256 + 2} {
		wrong[api.ErrBad] = append(wrong[api.ErrBad], ranks(cands), ranks(cands, first))
	}
	return wrong
}

func TestWrongProfiles(t *testing.T) {
	for want, l := range wrongProfiles() {
		for _, p := range l {
			if e := profile.Check(p); e != want {
				t.Errorf("the error of %s is %d; want %d", show(p), int(e), int(want))
			}
			checkError(t, p, 1, []int{0, 1}, api.ErrBad)
			checkError(t, p, 1, upTo(min(max(p.Cands, 0), 20)), api.ErrBad)
			checkError(t, p, 0, nil, api.ErrBad)
		}
	}
}

func TestWrongKinds(t *testing.T) {
	for kind := range 256 {
		for _, p := range []api.Profile{of(2, uint8(kind)), of(2, uint8(kind), row(1, 0, 1)), of(1, uint8(kind), row(1, 0))} {
			if kind == 1 {
				checkCount(t, p, 1, upTo(p.Cands))
				continue
			}
			checkError(t, p, 1, upTo(p.Cands), api.ErrBad)
		}
	}
	for kind := uint8(2); kind <= 3; kind++ {
		checkError(t, fullProfile(kind), 1, upTo(10), api.ErrBad)
	}
}

func TestWrongSeats(t *testing.T) {
	for cands := 1; cands <= 10; cands++ {
		p := ranks(cands, row(2, 0))
		for _, seats := range append(wilds(), cands, cands+1, cands-1, 1+1<<8, 1+1<<16, 1-1<<32, 1+1<<62, -cands) {
			if seats == 1 {
				checkCount(t, p, seats, upTo(cands))
				continue
			}
			checkError(t, p, seats, upTo(cands), api.ErrArg)
		}
	}
}

func TestWrongLots(t *testing.T) {
	for cands := 1; cands <= 10; cands++ {
		full := ranks(cands, row(1, upTo(cands)...))
		if cands == 10 {
			full = fullProfile(1)
		}
		for _, lot := range wrongLots(cands) {
			checkError(t, ranks(cands), 1, lot, api.ErrArg)
			checkError(t, full, 1, lot, api.ErrArg)
			checkError(t, full, 2, lot, api.ErrArg)
		}
	}
}

// The model

// counted returns all profiles of these rankings, each of which occurs up to most times.
func counted(cands, most int, rankings [][]int) []api.Profile {
	slices.SortFunc(rankings, slices.Compare)
	all := []api.Profile{ranks(cands)}
	for _, marks := range rankings {
		for _, p := range all {
			for many := 1; many <= most; many++ {
				all = append(all, ranks(cands, slices.Concat(p.Rows, []api.Row{row(many, marks...)})...))
			}
		}
	}
	return all
}

// smallProfiles returns all profiles of few ballots among few candidates.
func smallProfiles() []api.Profile {
	return slices.Concat(
		counted(1, 3, [][]int{{}, {0}}),
		counted(2, 3, [][]int{{}, {0}, {0, 1}, {1}, {1, 0}}),
		counted(3, 2, lots(3)),
		counted(3, 1, [][]int{{}, {0}, {1}, {2}, {0, 1}, {2, 1}, {1, 2, 0}, {2, 0, 1}, {0, 2, 1}}),
		counted(4, 1, [][]int{{0}, {1, 2, 3, 0}, {2, 3, 0, 1}, {3, 0, 1, 2}, {3, 1}, {1, 0, 3}, {2, 1, 3}}),
	)
}

// related returns a profile in which the margin of x over y is twice the entry of m, which is positive only in one direction. Of each pair, two rankings cancel each other out but for the pair.
func related(t *testing.T, m api.Pairs, cands int) api.Profile {
	t.Helper()
	p := ranks(cands)
	for x := range cands {
		for _, y := range others(cands, x) {
			if m[x][y] == 0 {
				continue
			}
			rest := slices.DeleteFunc(upTo(cands), func(c int) bool { return c == x || c == y })
			for _, marks := range [][]int{slices.Concat([]int{x, y}, rest), slices.Concat(reversed(rest), []int{x, y})} {
				var e api.Errno
				if p, e = profile.Add(p, api.Ballot{Kind: 1, Marks: marks}, m[x][y]); e != api.OK {
					t.Fatal(int(e))
				}
			}
		}
	}
	return p
}

// All ways in which up to four candidates may beat each other, by two margins; and some in which five may, by margins at random.
func TestAllLinksHaveTheModelsOutcomes(t *testing.T) {
	random := rand.New(rand.NewSource(322))
	var five []api.Pairs
	for i, m := range linked(5, 1) {
		if i%15 == 0 {
			five = append(five, weighted(random, m, 4))
		}
	}
	tied := map[int]int{}
	for i, all := range [][]api.Pairs{linked(1, 1), linked(2, 1, 2), linked(3, 1, 2, 3), linked(4, 1, 2), five} {
		cands := i + 1
		for _, m := range all {
			p := related(t, m, cands)
			o, e := checkCount(t, p, 1, random.Perm(cands))
			if e != api.OK {
				t.Fatal(show(p), int(e))
			}
			for _, x := range o.Ties {
				tied[len(x.Among)]++
			}
		}
	}
	if tied[0]+tied[1] > 0 || tied[2] < 1000 || tied[3] < 100 || tied[4] < 5 {
		t.Errorf("so many are tied: %v", tied)
	}
}

func TestSmallProfilesHaveTheModelsOutcomes(t *testing.T) {
	random := rand.New(rand.NewSource(323))
	tied := map[int]int{}
	for _, p := range smallProfiles() {
		if e := profile.Check(p); e != api.OK {
			t.Fatal(show(p), int(e))
		}
		o, _ := checkCount(t, p, 1, random.Perm(p.Cands))
		for _, x := range o.Ties {
			tied[len(x.Among)]++
		}
		checkCount(t, p, 1, downFrom(p.Cands))
	}
	if tied[0]+tied[1] > 0 || tied[2] < 100 || tied[3] < 50 || tied[4] < 1 {
		t.Errorf("so many are tied: %v", tied)
	}
}

func TestRandomProfilesHaveTheModelsOutcomes(t *testing.T) {
	random := rand.New(rand.NewSource(324))
	tied, notLocked := 0, 0
	for range 3000 {
		p := randomProfile(random, 1+random.Intn(10), api.KindRank)
		if random.Intn(2) == 0 {
			p = evened(random, p)
		}
		lot := random.Perm(p.Cands)
		o, e := checkCount(t, p, 1, lot)
		if e != api.OK {
			t.Fatal(show(p), int(e))
		}
		tied += len(o.Ties)
		m := matrixOf(t, p)
		if m != modelMatrix(p) {
			t.Fatalf("the matrix of %s is %v", show(p), m)
		}
		order, locks, _ := checkModel(t, m, p.Cands, lot)
		notLocked += len(order) - len(locks)
	}
	if tied < 500 || notLocked < 500 {
		t.Errorf("%d ties, and %d links that are not locked", tied, notLocked)
	}
}

// The outcome

// The form of every outcome, whatever it says, by the locked links of its matrix; and its numbers, by the arithmetic of layer 4.
func TestTheWholeOutcome(t *testing.T) {
	random := rand.New(rand.NewSource(325))
	for range 3000 {
		p := evened(random, randomProfile(random, 1+random.Intn(10), api.KindRank))
		lot := random.Perm(p.Cands)
		o, e := ranked.Count(p, 1, lot)
		if e != api.OK || len(o.Elected) != 1 || len(o.Rounds) != 1 || len(o.Ties) > 1 {
			t.Fatalf("the count of %s: %v, %d", show(p), o, int(e))
		}
		r := o.Rounds[0]
		if len(r.Had) != p.Cands || !slices.Equal(r.Elected, o.Elected) || len(r.Out) != 0 || !ratio.Same(r.Lost, ratio.Whole(0)) {
			t.Errorf("the count of %s: the round is %v", show(p), r)
		}
		var undefeated []int
		l := locked(matrixOf(t, p), lot)
		for c, n := range r.Had {
			from, to := 0, 0
			for _, k := range l {
				if k.From == c {
					from++
				}
				if k.To == c {
					to++
				}
			}
			if !ratio.Same(n, ratio.Whole(from)) {
				t.Errorf("the count of %s, lot %v: %v; the locked links are %v", show(p), lot, o, l)
			}
			if to == 0 {
				undefeated = append(undefeated, c)
			}
		}
		first := lot[slices.IndexFunc(lot, func(c int) bool { return slices.Contains(undefeated, c) })]
		var want []api.Tie
		if len(undefeated) > 1 {
			want = []api.Tie{tie(first, undefeated...)}
		}
		if o.Elected[0] != first || !same(api.Outcome{Ties: o.Ties}, api.Outcome{Ties: want}) {
			t.Errorf("the count of %s, lot %v: %v; undefeated are %v", show(p), lot, o, undefeated)
		}
	}
}
