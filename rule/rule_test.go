package rule_test

import (
	"math"
	"slices"
	"testing"

	"suffrage/api"
	"suffrage/ratio"
	"suffrage/rule"
)

// profiles returns a valid profile of each kind, among three candidates.
func profiles() []api.Profile {
	return []api.Profile{
		{Cands: 3, Kind: api.KindRank, Rows: []api.Row{{Marks: []int{2, 0}, Many: 4}}},
		{Cands: 3, Kind: api.KindMark, Rows: []api.Row{{Marks: []int{0, 2}, Many: 4}}},
		{Cands: 3, Kind: api.KindScore, Rows: []api.Row{{Marks: []int{0, 2, 10}, Many: 4}}},
	}
}

func checkCheck(t *testing.T, p api.Profile, kind uint8, seats, most int, lot []int, want api.Errno) {
	t.Helper()
	if e := rule.Check(p, kind, seats, most, lot); e != want {
		t.Errorf("Check(%v, %d, %d, %d, %v) = %d; want %d", p, kind, seats, most, lot, int(e), int(want))
	}
}

func checkKind(t *testing.T, p api.Profile, kind uint8, want api.Errno) {
	t.Helper()
	if e := rule.CheckKind(p, kind); e != want {
		t.Errorf("CheckKind(%v, %d) = %d; want %d", p, kind, int(e), int(want))
	}
}

func TestCheckOfProfiles(t *testing.T) {
	lot := []int{1, 2, 0}
	for _, p := range profiles() {
		for kind := range 256 {
			want := api.ErrBad
			if uint8(kind) == p.Kind {
				want = api.OK
			}
			checkCheck(t, p, uint8(kind), 1, 1, lot, want)
			checkKind(t, p, uint8(kind), want)
		}
		wrong := []api.Profile{{}, {Cands: 3}, {Cands: 0, Kind: p.Kind}, {Cands: 11, Kind: p.Kind}, {Cands: 2, Kind: p.Kind, Rows: p.Rows}}
		wrong = append(wrong, api.Profile{Cands: 3, Kind: p.Kind, Rows: make([]api.Row, 65)}) // ErrFull
		wrong = append(wrong, api.Profile{Cands: 3, Kind: p.Kind, Rows: []api.Row{{Marks: p.Rows[0].Marks, Many: api.MaxMany + 1}}})
		for _, q := range wrong {
			checkCheck(t, q, q.Kind, 1, 1, lot, api.ErrBad)
			checkCheck(t, q, q.Kind, 0, 1, nil, api.ErrBad)
			checkKind(t, q, q.Kind, api.ErrBad)
		}
		checkCheck(t, p, 0, 0, 1, nil, api.ErrBad)
	}
}

func TestCheckOfSeats(t *testing.T) {
	for _, p := range profiles() {
		for _, most := range []int{1, 3, 10} {
			for _, seats := range []int{math.MinInt, -1, 0, 1, 2, 3, 4, 9, 10, 11, 1<<32 + 1, math.MaxInt} {
				want := api.OK
				if seats < 1 || seats > most {
					want = api.ErrArg
				}
				checkCheck(t, p, p.Kind, seats, most, []int{2, 1, 0}, want)
			}
		}
	}
}

func TestCheckOfLots(t *testing.T) {
	for _, p := range profiles() {
		for _, lot := range [][]int{{0, 1, 2}, {0, 2, 1}, {1, 0, 2}, {1, 2, 0}, {2, 0, 1}, {2, 1, 0}} {
			checkCheck(t, p, p.Kind, 3, 3, lot, api.OK)
		}
		for _, lot := range [][]int{nil, {}, {0, 1}, {0}, {0, 1, 2, 3}, {0, 1, 1}, {0, 0, 0}, {-1, 0, 1}, {1, 2, 3}, {0, 1, math.MinInt}, {0, 1, 1<<32 + 2}, {0, 1, 2, 2}} {
			checkCheck(t, p, p.Kind, 3, 3, lot, api.ErrArg)
		}
	}
}

func checkIsLot(t *testing.T, lot []int, cands int, want bool) {
	t.Helper()
	if rule.IsLot(lot, cands) != want {
		t.Errorf("IsLot(%v, %d) = %v", lot[:min(len(lot), 50)], cands, !want)
	}
}

func TestIsLot(t *testing.T) {
	upTo := make([]int, 12)
	for i := range upTo {
		upTo[i] = i
	}
	for cands := range len(upTo) {
		for have := range len(upTo) {
			checkIsLot(t, upTo[:have], cands, have == cands && cands >= 1 && cands <= 10)
		}
	}
	checkIsLot(t, []int{2, 0, 3, 1}, 4, true)
	checkIsLot(t, []int{3, 2, 1, 0}, 4, true)
	for _, lot := range [][]int{nil, {}, {0, 1, 2}, {0, 1, 2, 2}, {1, 2, 3, 4}, {-1, 0, 1, 2}, {0, 1, 2, math.MaxInt}, {0, 1, 2, 1<<32 + 3}, {0, 1, 2, 3, 3}} {
		checkIsLot(t, lot, 4, false)
	}
	for _, cands := range []int{math.MinInt, -1, 11, 1<<32 + 2, math.MaxInt} {
		checkIsLot(t, nil, cands, false)
		checkIsLot(t, []int{0, 1}, cands, false)
	}
	checkIsLot(t, make([]int, 1<<16), 1<<16, false)
}

func checkIsRanking(t *testing.T, l []int, cands int, want bool) {
	t.Helper()
	if rule.IsRanking(l, cands) != want {
		t.Errorf("IsRanking(%v, %d) = %v", l[:min(len(l), 50)], cands, !want)
	}
}

func TestIsRanking(t *testing.T) {
	for cands := 1; cands <= 10; cands++ {
		for _, l := range [][]int{nil, {}, {0}, {cands - 1}} {
			checkIsRanking(t, l, cands, true)
		}
		for _, l := range [][]int{{cands}, {-1}, {0, 0}, {cands - 1, cands - 1}, {0, cands}, {-1, 0}, {math.MinInt}, {math.MaxInt}, {1<<32 + cands - 1}} {
			checkIsRanking(t, l, cands, false)
		}
	}
	for _, l := range [][]int{{2, 0}, {3, 2, 1}, {1, 3, 0, 2}} {
		checkIsRanking(t, l, 4, true)
	}
	for _, l := range [][]int{{2, 0, 2}, {3, 2, 1, 0, 3}, {0, 1, 2, 3, 4}, {1, 4}} {
		checkIsRanking(t, l, 4, false)
	}
	for _, cands := range []int{math.MinInt, -1, 0, 11, 1<<32 + 2, math.MaxInt} {
		checkIsRanking(t, nil, cands, false)
		checkIsRanking(t, []int{0, 1}, cands, false)
	}
	checkIsRanking(t, make([]int, 1<<16), 10, false)
}

func checkFirst(t *testing.T, among, lot []int, want int, wantTies ...api.Tie) {
	t.Helper()
	chosen, ties := rule.First(among, lot)
	if chosen != want || !slices.EqualFunc(ties, wantTies, func(x, y api.Tie) bool { return slices.Equal(x.Among, y.Among) && x.Chosen == y.Chosen }) {
		t.Errorf("First(%v, %v) = %d, %v; want %d, %v", among, lot, chosen, ties, want, wantTies)
	}
}

func TestFirst(t *testing.T) {
	lot := []int{3, 1, 4, 0, 2}
	for c := range lot {
		checkFirst(t, []int{c}, lot, c)
	}
	checkFirst(t, []int{0, 1, 2, 3, 4}, lot, 3, api.Tie{Among: []int{0, 1, 2, 3, 4}, Chosen: 3})
	checkFirst(t, []int{0, 2, 4}, lot, 4, api.Tie{Among: []int{0, 2, 4}, Chosen: 4})
	checkFirst(t, []int{0, 2}, lot, 0, api.Tie{Among: []int{0, 2}, Chosen: 0})
	checkFirst(t, []int{1, 2}, lot, 1, api.Tie{Among: []int{1, 2}, Chosen: 1})
}

// A tie has memory of its own, and the choice changes neither argument.
func TestFirstSharesNothing(t *testing.T) {
	among, lot := []int{0, 2, 9, 9}[:2], []int{1, 2, 0, 9}[:3]
	_, ties := rule.First(among, lot)
	_ = append(ties[0].Among, 7)
	ties[0].Among[0], ties[0].Among[1] = 5, 6
	if !slices.Equal(among[:4], []int{0, 2, 9, 9}) || !slices.Equal(lot[:4], []int{1, 2, 0, 9}) {
		t.Errorf("the arguments become %v and %v", among[:4], lot[:4])
	}
}

func checkLast(t *testing.T, among, lot []int, want int, wantTies ...api.Tie) {
	t.Helper()
	chosen, ties := rule.Last(among, lot)
	if chosen != want || !slices.EqualFunc(ties, wantTies, func(x, y api.Tie) bool { return slices.Equal(x.Among, y.Among) && x.Chosen == y.Chosen }) {
		t.Errorf("Last(%v, %v) = %d, %v; want %d, %v", among, lot, chosen, ties, want, wantTies)
	}
}

func TestLast(t *testing.T) {
	lot := []int{3, 1, 4, 0, 2}
	for c := range lot {
		checkLast(t, []int{c}, lot, c)
	}
	checkLast(t, []int{0, 1, 2, 3, 4}, lot, 2, api.Tie{Among: []int{0, 1, 2, 3, 4}, Chosen: 2})
	checkLast(t, []int{0, 1, 4}, lot, 0, api.Tie{Among: []int{0, 1, 4}, Chosen: 0})
	checkLast(t, []int{1, 3}, lot, 1, api.Tie{Among: []int{1, 3}, Chosen: 1})
	checkLast(t, []int{3, 4}, lot, 4, api.Tie{Among: []int{3, 4}, Chosen: 4})
}

func TestLastSharesNothing(t *testing.T) {
	among, lot := []int{0, 2, 9, 9}[:2], []int{1, 2, 0, 9}[:3]
	_, ties := rule.Last(among, lot)
	_ = append(ties[0].Among, 7)
	ties[0].Among[0], ties[0].Among[1] = 5, 6
	if !slices.Equal(among[:4], []int{0, 2, 9, 9}) || !slices.Equal(lot[:4], []int{1, 2, 0, 9}) {
		t.Errorf("the arguments become %v and %v", among[:4], lot[:4])
	}
}

func TestRound(t *testing.T) {
	round := rule.Round([]int{0, 7, api.MaxMany * api.MaxScore}, 12)
	if len(round.Had) != 3 || len(round.Elected) != 0 || len(round.Out) != 0 {
		t.Fatalf("the round is %v", round)
	}
	for i, x := range append(round.Had, round.Lost) {
		if want := []string{"0", "7", "10000000", "12"}[i]; textOf(x) != want {
			t.Errorf("number %d is %v; want %s", i, x, want)
		}
	}
	if none := rule.Round(nil, 0); len(none.Had) != 0 || textOf(none.Lost) != "0" {
		t.Errorf("the round without candidates is %v", none)
	}
}

// Each total is turned into its number, in order.
func TestRoundOf(t *testing.T) {
	half := func(n int) (api.Ratio, api.Errno) { return ratio.Of(int64(n), 2) }
	round := rule.RoundOf(half, []int{4, 3, 0}, 7)
	if len(round.Had) != 3 || len(round.Elected) != 0 || len(round.Out) != 0 {
		t.Fatalf("the round is %v", round)
	}
	for i, x := range append(round.Had, round.Lost) {
		if want := []string{"2", "3/2", "0", "7/2"}[i]; textOf(x) != want {
			t.Errorf("number %d is %v; want %s", i, x, want)
		}
	}
}

func checkElect(t *testing.T, among, lot []int, want int, wantTies ...api.Tie) {
	t.Helper()
	o := rule.Elect(rule.Round([]int{4, 0, 9}, 2), among, lot)
	if !slices.Equal(o.Elected, []int{want}) || len(o.Rounds) != 1 || !slices.EqualFunc(o.Ties, wantTies, func(x, y api.Tie) bool { return slices.Equal(x.Among, y.Among) && x.Chosen == y.Chosen }) {
		t.Fatalf("Elect(.., %v, %v) = %v; want %d, %v", among, lot, o, want, wantTies)
	}
	r := o.Rounds[0]
	if !slices.Equal(r.Elected, []int{want}) || len(r.Out) != 0 || len(r.Had) != 3 || textOf(r.Had[0])+textOf(r.Had[1])+textOf(r.Had[2])+textOf(r.Lost) != "4092" {
		t.Errorf("Elect(.., %v, %v) has the round %v", among, lot, r)
	}
	o.Elected[0] = 7 // which is not the round's
	if r.Elected[0] != want {
		t.Errorf("Elect(.., %v, %v) shares its memory with the round", among, lot)
	}
}

func TestElect(t *testing.T) {
	lot := []int{1, 2, 0}
	for c := range 3 {
		checkElect(t, []int{c}, lot, c)
	}
	checkElect(t, []int{0, 1, 2}, lot, 1, api.Tie{Among: []int{0, 1, 2}, Chosen: 1})
	checkElect(t, []int{0, 2}, lot, 2, api.Tie{Among: []int{0, 2}, Chosen: 2})
}

// The round's list of the elected is its own.
func TestAlone(t *testing.T) {
	elected := []int{2, 0, 2, 9}[:3]
	o := rule.Alone(rule.Round([]int{4, 0, 9}, 2), elected, []api.Tie{{Among: []int{0, 1}, Chosen: 0}})
	if !slices.Equal(o.Elected, []int{2, 0, 2}) || len(o.Rounds) != 1 {
		t.Fatalf("the outcome is %v", o)
	}
	checkRound(t, o.Rounds[0], "4092", []int{2, 0, 2}, nil)
	checkTies(t, o.Ties, api.Tie{Among: []int{0, 1}, Chosen: 0})
	o.Elected[0] = 7
	if o.Rounds[0].Elected[0] != 2 {
		t.Errorf("the round is %v", o.Rounds[0])
	}
	if none := rule.Alone(rule.Round([]int{1}, 0), nil, nil); len(none.Elected)+len(none.Ties)+len(none.Rounds[0].Elected) != 0 || len(none.Rounds) != 1 {
		t.Errorf("the outcome with nobody elected is %v", none)
	}
}

func textOf(x api.Ratio) string {
	s, e := ratio.Text(x)
	if e != api.OK {
		return "none"
	}
	return s
}
