package profile_test

import (
	"fmt"
	"math"
	"math/rand"
	"slices"
	"testing"

	"suffrage/api"
	"suffrage/profile"
)

func row(many int, marks ...int) api.Row { return api.Row{Marks: marks, Many: many} }

// of returns a profile with rows, valid or not.
func of(cands int, kind uint8, rows ...api.Row) api.Profile {
	return api.Profile{Cands: cands, Kind: kind, Rows: rows}
}

func ranks(cands int, rows ...api.Row) api.Profile { return of(cands, 1, rows...) }

func marks(cands int, rows ...api.Row) api.Profile { return of(cands, 2, rows...) }

func scores(cands int, rows ...api.Row) api.Profile { return of(cands, 3, rows...) }

func rank(marks ...int) api.Ballot { return api.Ballot{Kind: 1, Marks: marks} }

func mark(marks ...int) api.Ballot { return api.Ballot{Kind: 2, Marks: marks} }

func score(marks ...int) api.Ballot { return api.Ballot{Kind: 3, Marks: marks} }

// upTo returns the numbers from 0 to n - 1.
func upTo(n int) []int {
	var l []int
	for i := range n {
		l = append(l, i)
	}
	return l
}

// perms returns all permutations of the numbers from 0 to n - 1.
func perms(n int) [][]int {
	all := [][]int{{}}
	for i := range n {
		var longer [][]int
		for _, perm := range all {
			for at := range i + 1 {
				longer = append(longer, slices.Insert(slices.Clone(perm), at, i))
			}
		}
		all = longer
	}
	return all
}

// manyRows returns n rows of one ballot each, for n up to 80, valid among 10 candidates and in order.
func manyRows(kind uint8, n int) []api.Row {
	var rows []api.Row
	for i := range 10 {
		for j := range 10 {
			switch kind {
			case 1:
				rows = append(rows, row(1, append([]int{i}, slices.DeleteFunc([]int{j}, func(c int) bool { return c == i })...)...))
			case 2:
				if i < j {
					rows = append(rows, row(1, i, j))
				}
				if i < j && j < 9 {
					rows = append(rows, row(1, i, j, 9))
				}
				rows = append(rows, row(1, 0, 1, 2)) // and others that occur twice
			case 3:
				rows = append(rows, row(1, i, j, 0, 0, 0, 0, 0, 0, 0, 0))
			}
		}
	}
	slices.SortFunc(rows, func(a, b api.Row) int { return slices.Compare(a.Marks, b.Marks) })
	rows = slices.CompactFunc(rows, func(a, b api.Row) bool { return slices.Equal(a.Marks, b.Marks) })
	return rows[:n]
}

// fullRows is a profile of 64 rows, with so many ballots in all.
func fullRows(kind uint8, many int) api.Profile {
	p := of(10, kind, manyRows(kind, 64)...)
	p.Rows[20].Many = many - 63
	return p
}

// show returns a text of p, or of its start if it is long.
func show(p api.Profile) string {
	s := fmt.Sprintf("%d rows among %d of kind %d: %v", len(p.Rows), p.Cands, p.Kind, p.Rows[:min(len(p.Rows), 80)])
	return s[:min(len(s), 1000)]
}

func checkProfile(t *testing.T, p api.Profile, e api.Errno, want api.Profile, wantE api.Errno, call string, arguments ...any) {
	t.Helper()
	if e != wantE || !modelSame(p, want) {
		s := fmt.Sprint(arguments...)
		t.Errorf("%s of %s: %s, error %d; want %s, error %d", call, s[:min(len(s), 1000)], show(p), int(e), show(want), int(wantE))
	}
}

// P9.1: Check

func checkCheck(t *testing.T, p api.Profile, want api.Errno) {
	t.Helper()
	if e := profile.Check(p); e != want {
		t.Errorf("Check(%s) = %d; want %d", show(p), int(e), int(want))
	}
}

func TestCheckOfFewProfiles(t *testing.T) {
	for _, p := range []api.Profile{
		ranks(2, row(4, 0, 1), row(2, 1)), ranks(2, row(6, 1)), ranks(3, row(1), row(1, 0), row(1, 0, 1), row(1, 0, 2), row(1, 2), row(1, 2, 0, 1)),
		marks(3, row(5), row(1, 0), row(9, 0, 1, 2), row(2, 0, 2), row(1, 2)), scores(3, row(1, 0, 0, 0), row(7, 0, 10, 0), row(1, 3, 0, 10)), scores(1, row(1, 0), row(1, 2), row(1, 10)),
	} {
		checkCheck(t, p, api.OK)
	}
}

func TestCheckOfNoRows(t *testing.T) {
	for cands := -2; cands <= 12; cands++ {
		for kind := range 256 {
			want := api.ErrBad
			if cands >= 1 && cands <= 10 && kind >= 1 && kind <= 3 {
				want = api.OK
			}
			for _, rows := range [][]api.Row{nil, {}, make([]api.Row, 0, 99)} {
				checkCheck(t, of(cands, uint8(kind), rows...), want)
			}
		}
	}
	for _, cands := range []int{math.MinInt, -1 << 32, -256, 255, 256, 257, 1 << 32, 1<<32 + 3, math.MaxInt} {
		checkCheck(t, ranks(cands), api.ErrBad)
		checkCheck(t, marks(cands, row(1, 0)), api.ErrBad)
		checkCheck(t, scores(cands, row(1, 0, 0, 0)), api.ErrBad)
	}
	checkCheck(t, api.Profile{}, api.ErrBad)
}

// Rows that are right among other candidates, or for another kind, are not right.
func TestCheckOfCandsAndKinds(t *testing.T) {
	for cands := -1; cands <= 12; cands++ {
		for kind := range 256 {
			for _, rows := range [][]api.Row{{row(1)}, {row(1, 0)}, {row(1, 1)}, {row(1, 9)}, {row(1, 10)}, {row(1, 11)}, {row(1, 1, 0)}, {row(1, 0, 1)}, {row(1, 0, 0)}, {row(1, upTo(10)...)}, {row(1, 0), row(1, 1)}} {
				p := of(cands, uint8(kind), rows...)
				checkCheck(t, p, modelCheck(p))
			}
		}
	}
	checkCheck(t, ranks(0, row(1)), api.ErrBad)
	checkCheck(t, ranks(11, row(1)), api.ErrBad)
	checkCheck(t, of(3, 0, row(1)), api.ErrBad)
	checkCheck(t, of(3, 4, row(1, 0, 1, 2)), api.ErrBad)
	checkCheck(t, of(3, 255, row(1, 0)), api.ErrBad)
}

func TestCheckOfManyRows(t *testing.T) {
	for kind := uint8(1); kind <= 3; kind++ {
		for n := range 81 {
			want := api.OK
			if n > 64 {
				want = api.ErrFull
			}
			checkCheck(t, of(10, kind, manyRows(kind, n)...), want)
		}
	}
	checkCheck(t, ranks(10, make([]api.Row, 1<<16)...), api.ErrFull)
}

// What is wrong counts in each row, wherever it is.
func TestCheckOfWrongRows(t *testing.T) {
	for kind := uint8(1); kind <= 3; kind++ {
		wrong := [][]int{{-1}, {10}, {0, 0}, {0, 11}, {math.MaxInt}, upTo(11), {5, 5}, {256}, {1 << 32}}
		if kind == 2 {
			wrong = append(wrong, []int{1, 0}, []int{0, 9, 3})
		}
		if kind == 3 {
			wrong = append(wrong, nil, []int{}, upTo(9), []int{0, 0, 0, 0, 0, 0, 0, 0, 0, 11}, []int{3, 0, 0, 0, 0, 0, 0, 0, 0, -1})
		}
		for at := range 64 {
			for _, m := range wrong {
				p := fullRows(kind, 100)
				p.Rows[at].Marks = m
				checkCheck(t, p, api.ErrBad)
			}
			for _, many := range []int{0, -1, -2, -64, math.MinInt, math.MinInt + 1, -1 << 32} {
				p := fullRows(kind, 100)
				p.Rows[at].Many = many
				checkCheck(t, p, api.ErrBad)
			}
		}
	}
	for _, many := range []int{0, -1, math.MinInt} {
		checkCheck(t, ranks(1, row(many)), api.ErrBad)
		checkCheck(t, ranks(1, row(5), row(many, 0)), api.ErrBad)
	}
}

// Each wrong row alone is not valid, even where the order is right.
func TestCheckOfOneWrongRow(t *testing.T) {
	for _, p := range []api.Profile{
		ranks(3, row(1, 3)), ranks(3, row(1, -1)), ranks(3, row(1, 0, 1, 0)), ranks(3, row(1, 0, 3)), ranks(3, row(1, 0), row(1, 3)), ranks(3, row(1, -1), row(1, 0)),
		marks(3, row(1, 3)), marks(3, row(1, 1, 0)), marks(3, row(1, 0, 0)), marks(3, row(1, 0), row(1, 2, 1)), marks(3, row(1, 0, 1), row(1, 0, 1, 2, 3)),
		scores(3, row(1)), scores(3, row(1, 1, 2)), scores(3, row(1, 1, 2, 3, 4)), scores(3, row(1, 0, 0, 11)), scores(3, row(1, -1, 0, 0)), scores(3, row(1, 0, 0, 0), row(1, 1, 2)),
	} {
		checkCheck(t, p, api.ErrBad)
	}
}

func TestCheckOfOrder(t *testing.T) {
	for kind := uint8(1); kind <= 3; kind++ {
		for i := range 10 {
			for j := range i {
				p := of(10, kind, manyRows(kind, 10)...)
				p.Rows[i], p.Rows[j] = p.Rows[j], p.Rows[i]
				checkCheck(t, p, api.ErrBad)
				twice := of(10, kind, slices.Insert(manyRows(kind, 10), j, manyRows(kind, 10)[i])...)
				checkCheck(t, twice, api.ErrBad)
			}
			twice := of(10, kind, slices.Insert(manyRows(kind, 10), i, manyRows(kind, 10)[i])...)
			checkCheck(t, twice, api.ErrBad)
		}
	}
	for _, p := range []api.Profile{
		ranks(2, row(1, 1), row(1, 0)), ranks(2, row(1, 0, 1), row(1, 0)), ranks(2, row(1, 0), row(1)), ranks(2, row(1), row(1)), ranks(2, row(1), row(2)), ranks(2, row(1, 0), row(2, 0)),
		ranks(2, api.Row{Many: 1}, api.Row{Marks: []int{}, Many: 1}), ranks(3, row(1, 1, 2), row(1, 1, 0, 2)), marks(3, row(1, 0, 2), row(1, 0, 1, 2)), scores(2, row(1, 10, 0), row(1, 9, 0)),
		scores(2, row(1, 2, 1), row(1, 2, 0)), scores(2, row(1, 2, 1), row(1, 2, 1)), ranks(4, row(1, 0), row(1, 1), row(1, 3), row(1, 2)), ranks(4, row(1, 1), row(1, 0), row(1, 2), row(1, 3)),
	} {
		checkCheck(t, p, api.ErrBad)
	}
	for _, p := range []api.Profile{ranks(3, row(1, 1, 0, 2), row(1, 1, 2)), marks(3, row(1, 0, 1, 2), row(1, 0, 2)), scores(2, row(1, 9, 0), row(1, 10, 0)), ranks(2, row(1, 0), row(1, 0, 1))} {
		checkCheck(t, p, api.OK)
	}
}

// A row may have no marks, be they nil or empty, except of scores.
func TestCheckOfBlankRows(t *testing.T) {
	for _, none := range [][]int{nil, {}, upTo(3)[:0]} {
		blank := api.Row{Marks: none, Many: 3}
		checkCheck(t, ranks(3, blank), api.OK)
		checkCheck(t, marks(3, blank), api.OK)
		checkCheck(t, scores(3, blank), api.ErrBad)
		checkCheck(t, ranks(3, blank, row(1, 0)), api.OK)
		checkCheck(t, ranks(3, row(1, 0), blank), api.ErrBad)
		checkCheck(t, marks(3, blank, blank), api.ErrBad)
	}
}

func TestCheckOfTotals(t *testing.T) {
	for _, c := range []struct {
		many []int
		want api.Errno
	}{
		{[]int{1}, api.OK}, {[]int{1000000}, api.OK}, {[]int{1000001}, api.ErrMany}, {[]int{math.MaxInt}, api.ErrMany}, {[]int{1 << 32}, api.ErrMany}, {[]int{1<<32 + 1}, api.ErrMany},
		{[]int{999999, 1}, api.OK}, {[]int{1000000, 1}, api.ErrMany}, {[]int{1, 1000000}, api.ErrMany}, {[]int{500000, 500000}, api.OK}, {[]int{500000, 500001}, api.ErrMany},
		{[]int{math.MaxInt, 1}, api.ErrMany}, {[]int{math.MaxInt, math.MaxInt}, api.ErrMany}, {[]int{math.MaxInt, math.MaxInt, 1}, api.ErrMany},
		{[]int{math.MaxInt, math.MaxInt, 2}, api.ErrMany}, {[]int{math.MaxInt, math.MaxInt, 3}, api.ErrMany}, {[]int{1, math.MaxInt, math.MaxInt, 3}, api.ErrMany},
		{[]int{1 << 62, 1 << 62, 1 << 62, 1 << 62}, api.ErrMany}, {[]int{1 << 62, 1 << 62, 1 << 62, 1 << 62, 5}, api.ErrMany}, {[]int{1 << 31, 1 << 31, 1}, api.ErrMany},
		{[]int{math.MaxInt, 5, math.MaxInt, 5}, api.ErrMany}, {slices.Repeat([]int{15625}, 64), api.OK}, {append(slices.Repeat([]int{15625}, 63), 15626), api.ErrMany},
		{slices.Repeat([]int{math.MaxInt}, 64), api.ErrMany}, {slices.Repeat([]int{1 << 58}, 64), api.ErrMany}, {append(slices.Repeat([]int{1}, 63), 999937), api.OK},
		{append(slices.Repeat([]int{1}, 63), 999938), api.ErrMany}, {append(slices.Repeat([]int{1000000}, 63), math.MaxInt-62999999), api.ErrMany},
		{slices.Repeat([]int{1000000}, 64), api.ErrMany}, {slices.Repeat([]int{1000001}, 64), api.ErrMany}, {slices.Repeat([]int{1 << 26}, 64), api.ErrMany},
	} {
		for kind := uint8(1); kind <= 3; kind++ {
			p := of(10, kind, manyRows(kind, len(c.many))...)
			for i, many := range c.many {
				p.Rows[i].Many = many
			}
			checkCheck(t, p, c.want)
		}
	}
}

func TestCheckOfRandomProfiles(t *testing.T) {
	random := rand.New(rand.NewSource(91))
	seen := map[api.Errno]int{}
	for range 40000 {
		p := randomProfile(random)
		for range random.Intn(3) {
			p = spoilt(random, p)
		}
		want := modelCheck(p)
		checkCheck(t, p, want)
		seen[want]++
	}
	if seen[api.OK] < 1000 || seen[api.ErrBad] < 1000 || seen[api.ErrMany] < 1000 || seen[api.ErrFull] < 100 {
		t.Errorf("the profiles have the errors %v", seen)
	}
}

// P9.1: New

func TestNew(t *testing.T) {
	for _, cands := range []int{math.MinInt, -256, -1, 0, 1, 2, 3, 4, 5, 6, 7, 8, 9, 10, 11, 12, 256, 257, 1 << 32, 1<<32 + 1, math.MaxInt} {
		for kind := range 256 {
			want, wantE := of(cands, uint8(kind)), api.OK
			if cands < 1 || cands > 10 || kind < 1 || kind > 3 {
				want, wantE = api.Profile{}, api.ErrArg
			}
			p, e := profile.New(cands, uint8(kind))
			checkProfile(t, p, e, want, wantE, "New", cands, kind)
		}
	}
}

// P9.1: Same and Twin

// differentProfiles are valid and not; no two of them are equal.
func differentProfiles() []api.Profile {
	return []api.Profile{
		{}, of(3, 0), ranks(0), ranks(3), ranks(4), marks(3), scores(3), of(3, 255), ranks(-1), ranks(math.MaxInt), ranks(3, row(0)), ranks(3, row(1)), ranks(3, row(2)), ranks(3, row(-1)), ranks(3, row(0, 0)),
		ranks(3, row(1, 0)), ranks(3, row(1, 0, 0)), ranks(3, row(1, 0, 1)), ranks(3, row(1, 1, 0)), ranks(3, row(2, 0, 1)), ranks(3, row(1, 0), row(1, 1)), ranks(3, row(1, 1), row(1, 0)),
		ranks(3, row(1, 0), row(1, 0)), ranks(3, row(2, 0), row(1, 1)), ranks(3, row(1, 0), row(2, 1)), ranks(3, row(1, 0), row(1, 1), row(1, 2)), ranks(3, row(1), row(1)), ranks(3, row(0), row(0)),
		marks(3, row(1, 0, 1)), ranks(4, row(1, 0, 1)), scores(3, row(1, 0, 1)), of(3, 77, row(1, 0, 1)), ranks(3, row(math.MinInt, math.MinInt)), ranks(3, row(math.MaxInt, math.MaxInt)),
		ranks(3, row(1<<32)), ranks(3, row(1, 1<<32)), ranks(3, row(1, -1)), ranks(10, make([]api.Row, 200)...), ranks(10, make([]api.Row, 201)...), ranks(10, manyRows(1, 64)...),
		ranks(10, manyRows(1, 65)...), ranks(3, row(1, upTo(1000)...)), ranks(3, row(1, upTo(1001)...)),
	}
}

func TestSameOfAnyProfiles(t *testing.T) {
	l := differentProfiles()
	for i, p := range l {
		for j, q := range l {
			q = copied(q)
			if same := profile.Same(p, q); same != (i == j) {
				t.Errorf("Same(%s; %s) = %v", show(p), show(q), same)
			}
		}
	}
}

func TestSameOfRandomProfiles(t *testing.T) {
	random := rand.New(rand.NewSource(92))
	equal := 0
	for range 20000 {
		p := randomProfile(random)
		q := spoilt(random, p)
		if same := profile.Same(p, q); same != modelSame(p, q) {
			t.Errorf("Same(%s; %s) = %v", show(p), show(q), same)
		} else if same {
			equal++
		}
	}
	if equal < 500 || equal > 19500 {
		t.Errorf("%d pairs are equal", equal)
	}
}

func TestTwinOfAnyProfiles(t *testing.T) {
	for _, p := range differentProfiles() {
		checkProfile(t, profile.Twin(p), api.OK, copied(p), api.OK, "Twin", p)
		if !profile.Same(profile.Twin(p), p) {
			t.Errorf("%s is not the same as its twin", show(p))
		}
	}
	random := rand.New(rand.NewSource(93))
	for range 5000 {
		p := spoilt(random, randomProfile(random))
		checkProfile(t, profile.Twin(p), api.OK, copied(p), api.OK, "Twin", p)
	}
}

// P9.1: Many and Marked

func checkCounts(t *testing.T, p api.Profile, many, marked int, wantE api.Errno) {
	t.Helper()
	if n, e := profile.Many(p); n != many || e != wantE {
		t.Errorf("Many(%s) = %d, %d; want %d, %d", show(p), n, int(e), many, int(wantE))
	}
	if n, e := profile.Marked(p); n != marked || e != wantE {
		t.Errorf("Marked(%s) = %d, %d; want %d, %d", show(p), n, int(e), marked, int(wantE))
	}
}

func TestManyAndMarked(t *testing.T) {
	for kind := uint8(1); kind <= 3; kind++ {
		checkCounts(t, of(5, kind), 0, 0, api.OK)
		checkCounts(t, api.Profile{Cands: 5, Kind: kind, Rows: []api.Row{}}, 0, 0, api.OK)
		checkCounts(t, fullRows(kind, 1000000), 1000000, 1000000, api.OK)
		checkCounts(t, fullRows(kind, 1000001), 0, 0, api.ErrMany)
		checkCounts(t, fullRows(kind, 64), 64, 64, api.OK)
	}
	for kind := uint8(1); kind <= 2; kind++ {
		checkCounts(t, of(5, kind, row(7)), 7, 0, api.OK)
		checkCounts(t, api.Profile{Cands: 5, Kind: kind, Rows: []api.Row{{Marks: []int{}, Many: 7}, row(4, 0)}}, 11, 4, api.OK)
		checkCounts(t, of(5, kind, row(1000000)), 1000000, 0, api.OK)
		checkCounts(t, of(5, kind, row(999999), row(1, 0)), 1000000, 1, api.OK)
		checkCounts(t, of(5, kind, row(1), row(999999, 0)), 1000000, 999999, api.OK)
		checkCounts(t, of(5, kind, row(3), row(5, 0), row(7, 0, 1), row(11, 3)), 26, 23, api.OK)
	}
	checkCounts(t, scores(2, row(3, 0, 0), row(4, 0, 9)), 7, 7, api.OK) // a score of 0 is a mark
}

func TestManyAndMarkedOfRandomProfiles(t *testing.T) {
	random := rand.New(rand.NewSource(94))
	for range 20000 {
		p := randomProfile(random)
		if random.Intn(3) == 0 {
			p = spoilt(random, p)
		}
		many, e := modelCount(p, 0)
		marked, _ := modelCount(p, 1)
		checkCounts(t, p, many, marked, e)
	}
}
