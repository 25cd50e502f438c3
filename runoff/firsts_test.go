package runoff_test

import (
	"math/rand"
	"slices"
	"testing"

	"suffrage/api"
	"suffrage/profile"
	"suffrage/runoff"
)

// P15.2

func checkFirsts(t *testing.T, p api.Profile, left []bool, lost int, had ...int) {
	t.Helper()
	if l, n, e := runoff.Firsts(p, left); !slices.Equal(l, had) || n != lost || e != api.OK {
		t.Errorf("of %s, left %v: %v, %d, %d; want %v, %d", show(p), left, l, n, int(e), had, lost)
	}
	if l, n, e := modelFirsts(p, left); !slices.Equal(l, had) || n != lost || e != api.OK {
		t.Errorf("the model: of %s, left %v: %v, %d, %d; want %v, %d", show(p), left, l, n, int(e), had, lost)
	}
}

func checkNoFirsts(t *testing.T, p api.Profile, left []bool) {
	t.Helper()
	if l, n, e := runoff.Firsts(p, left); l != nil || n != 0 || e != api.ErrBad {
		t.Errorf("of %s, left %v: %v, %d, %d; want nothing, 8", show(p), left[:min(len(left), 50)], l, n, int(e))
	}
}

// checkModel holds Firsts against the model.
func checkModel(t *testing.T, p api.Profile, left []bool) (had []int, lost int) {
	t.Helper()
	had, lost, e := runoff.Firsts(p, left)
	want, wantLost, wantE := modelFirsts(p, left)
	if !slices.Equal(had, want) || lost != wantLost || e != wantE {
		t.Errorf("of %s, left %v: %v, %d, %d; want %v, %d, %d", show(p), left, had, lost, int(e), want, wantLost, int(wantE))
	}
	return had, lost
}

// bits returns a list of so many candidates, of which those are left whose bit is set.
func bits(n, set int) []bool {
	left := make([]bool, n)
	for c := range left {
		left[c] = set>>c&1 == 1
	}
	return left
}

// theExample is the profile of the document's first example.
func theExample() api.Profile { return ranks(3, row(4, 0, 1), row(3, 1), row(2, 2, 1)) }

func TestFirstsOfTheExample(t *testing.T) {
	p := theExample()
	checkFirsts(t, p, []bool{true, true, true}, 0, 4, 3, 2)
	checkFirsts(t, p, []bool{true, true, false}, 0, 4, 5, 0)
	checkFirsts(t, p, []bool{true, false, true}, 3, 4, 0, 2)
	checkFirsts(t, p, []bool{false, true, true}, 0, 0, 7, 2)
	checkFirsts(t, p, []bool{true, false, false}, 5, 4, 0, 0)
	checkFirsts(t, p, []bool{false, true, false}, 0, 0, 9, 0)
	checkFirsts(t, p, []bool{false, false, true}, 7, 0, 0, 2)
	checkFirsts(t, p, []bool{false, false, false}, 9, 0, 0, 0)
}

// manyRankings returns a profile with rankings of each length, in which the numbers of ballots are different powers of two, so that each sum tells whose they are.
func manyRankings() api.Profile {
	return ranks(4, row(1), row(2, 0), row(4, 0, 1), row(8, 0, 1, 2, 3), row(16, 1), row(32, 1, 3, 0), row(64, 2, 0, 3, 1), row(128, 3), row(256, 3, 2, 1), row(512, 3, 2, 1, 0))
}

func TestWhoIsLeft(t *testing.T) {
	p := manyRankings()
	none := 1 + 2 + 4 + 8 + 16 + 32 + 64 + 128 + 256 + 512
	for _, left := range [][]bool{nil, {}, {false}, make([]bool, 3), make([]bool, 4), make([]bool, 5), make([]bool, 100)} {
		checkFirsts(t, p, left, none, 0, 0, 0, 0)
	}
	yes, no := true, false
	for _, c := range []struct {
		left []bool
		lost int
		had  []int
	}{
		{[]bool{yes, yes, yes, yes}, 1, []int{2 + 4 + 8, 16 + 32, 64, 128 + 256 + 512}},
		// One is left, and those who rank it anywhere count for it.
		{[]bool{yes, no, no, no}, 1 + 16 + 128 + 256, []int{2 + 4 + 8 + 32 + 64 + 512, 0, 0, 0}},
		{[]bool{no, yes, no, no}, 1 + 2 + 128, []int{0, 4 + 8 + 16 + 32 + 64 + 256 + 512, 0, 0}},
		{[]bool{no, no, yes, no}, 1 + 2 + 4 + 16 + 32 + 128, []int{0, 0, 8 + 64 + 256 + 512, 0}},
		{[]bool{no, no, no, yes}, 1 + 2 + 4 + 16, []int{0, 0, 0, 8 + 32 + 64 + 128 + 256 + 512}},
		// The second is the first one left, or the third, or the last.
		{[]bool{no, yes, yes, yes}, 1 + 2, []int{0, 4 + 8 + 16 + 32, 64, 128 + 256 + 512}},
		{[]bool{no, no, yes, yes}, 1 + 2 + 4 + 16, []int{0, 0, 8 + 64, 32 + 128 + 256 + 512}},
		{[]bool{yes, no, no, yes}, 1 + 16, []int{2 + 4 + 8 + 64, 0, 0, 32 + 128 + 256 + 512}},
		{[]bool{yes, yes, no, no}, 1 + 128, []int{2 + 4 + 8 + 64, 16 + 32 + 256 + 512, 0, 0}},
		// Too short a list: the others are not left.
		{[]bool{yes}, 1 + 16 + 128 + 256, []int{2 + 4 + 8 + 32 + 64 + 512, 0, 0, 0}},
		{[]bool{yes, yes}, 1 + 128, []int{2 + 4 + 8 + 64, 16 + 32 + 256 + 512, 0, 0}},
		{[]bool{no, yes}, 1 + 2 + 128, []int{0, 4 + 8 + 16 + 32 + 64 + 256 + 512, 0, 0}},
		{[]bool{yes, yes, yes}, 1 + 128, []int{2 + 4 + 8, 16 + 32, 64 + 256 + 512, 0}},
		{[]bool{no, no, yes}, 1 + 2 + 4 + 16 + 32 + 128, []int{0, 0, 8 + 64 + 256 + 512, 0}},
	} {
		checkFirsts(t, p, c.left, c.lost, c.had...)
		if len(c.left) < 4 {
			continue
		}
		// What is behind the candidates changes nothing.
		for _, behind := range [][]bool{{yes}, {no}, {no, yes}, {yes, no}, {yes, yes, yes, yes, yes, yes, yes}, make([]bool, 200), slices.Repeat([]bool{yes}, 200)} {
			checkFirsts(t, p, slices.Concat(c.left, behind), c.lost, c.had...)
		}
	}
}

// A list with room behind it is as long as it says.
func TestOnlyTheLengthOfLeftCounts(t *testing.T) {
	left := slices.Repeat([]bool{true}, 4)
	checkFirsts(t, theExample(), left[:0], 9, 0, 0, 0)
	checkFirsts(t, theExample(), left[:1], 5, 4, 0, 0)
	checkFirsts(t, theExample(), left[:2], 0, 4, 5, 0)
	checkFirsts(t, theExample(), left[:3], 0, 4, 3, 2)
}

// There is an entry for each candidate of the profile, however long left is.
func TestOneEntryForEachCandidate(t *testing.T) {
	for cands := 1; cands <= 10; cands++ {
		for n := range 13 {
			for _, all := range []bool{true, false} {
				left := slices.Repeat([]bool{all}, n)
				checkFirsts(t, ranks(cands), left, 0, make([]int, cands)...)
				checkFirsts(t, ranks(cands, row(5)), left, 5, make([]int, cands)...)
				had, lost := make([]int, cands), 6
				if all && n >= cands {
					had[cands-1], lost = 6, 0
				}
				checkFirsts(t, ranks(cands, row(6, cands-1)), left, lost, had...)
			}
		}
	}
}

// A ballot that ranks all ten candidates counts for the first of those that are left, whoever they are.
func TestAnyTenCandidatesLeft(t *testing.T) {
	order := []int{5, 7, 4, 8, 2, 0, 9, 6, 1, 3}
	for set := range 1 << 10 {
		had, lost := make([]int, 10), 7
		if first := slices.IndexFunc(order, func(c int) bool { return set>>c&1 == 1 }); first >= 0 {
			had[order[first]], lost = 7, 0
		}
		checkFirsts(t, ranks(10, row(7, order...)), bits(10, set), lost, had...)
	}
}

func TestFirstsAtTheLimits(t *testing.T) {
	checkFirsts(t, ranks(2, row(1000000, 1)), []bool{true, true}, 0, 0, 1000000)
	checkFirsts(t, ranks(2, row(1000000, 1)), []bool{true, false}, 1000000, 0, 0)
	checkFirsts(t, ranks(2, row(1000000)), []bool{true, true}, 1000000, 0, 0)
	checkFirsts(t, ranks(2, row(1), row(499999, 0), row(500000, 1, 0)), []bool{true}, 1, 999999, 0)
	for _, p := range []api.Profile{fullProfile(1), unevenProfile()} {
		if many, e := profile.Many(p); e != api.OK || many != 1000000 || len(p.Rows) != 64 {
			t.Fatal(many, int(e))
		}
		for set := range 1 << 10 {
			had, lost := checkModel(t, p, bits(10, set))
			for _, n := range had {
				lost += n
			}
			if lost != 1000000 {
				t.Errorf("%d ballots in all", lost)
			}
		}
	}
}

// fullProfile returns a profile with 64 rows and a million ballots.
func fullProfile(kind uint8) api.Profile {
	random := rand.New(rand.NewSource(401))
	p := of(10, kind)
	for len(p.Rows) < 64 {
		p.Rows = append(p.Rows, row(15625, randomMarks(random, 10, kind)...))
		slices.SortFunc(p.Rows, func(r, s api.Row) int { return slices.Compare(r.Marks, s.Marks) })
		p.Rows = slices.CompactFunc(p.Rows, func(r, s api.Row) bool { return slices.Equal(r.Marks, s.Marks) })
	}
	return p
}

// unevenProfile is a full one in which a row has almost all ballots.
func unevenProfile() api.Profile {
	p := fullProfile(1)
	for i := range p.Rows {
		p.Rows[i].Many = 1
	}
	p.Rows[40].Many = 999937
	return p
}

// Errors

func TestNoFirstsOfWrongProfiles(t *testing.T) {
	for _, l := range wrongProfiles() {
		for _, p := range l {
			for _, left := range [][]bool{nil, {true}, {true, true}, {false, true, true}, make([]bool, 11)} {
				checkNoFirsts(t, p, left)
			}
		}
	}
}

func TestNoFirstsOfOtherKinds(t *testing.T) {
	for kind := range 256 {
		for _, p := range []api.Profile{of(2, uint8(kind)), of(2, uint8(kind), row(1, 0, 1)), of(1, uint8(kind), row(1, 0)), of(3, uint8(kind), row(1))} {
			if kind == 1 {
				checkModel(t, p, []bool{true, true})
				continue
			}
			checkNoFirsts(t, p, []bool{true, true})
			checkNoFirsts(t, p, nil)
		}
	}
	for kind := uint8(2); kind <= 3; kind++ {
		if p := fullProfile(kind); profile.Check(p) != api.OK {
			t.Fatal(show(p))
		}
		checkNoFirsts(t, fullProfile(kind), slices.Repeat([]bool{true}, 10))
	}
}

// The model

// All small profiles, with each list that is shorter than, as long as or longer than their candidates.
func TestSmallProfilesHaveTheModelsFirsts(t *testing.T) {
	for _, p := range smallProfiles() {
		for n := range p.Cands + 2 {
			for set := range 1 << n {
				checkModel(t, p, bits(n, set))
			}
		}
	}
}

func TestRandomProfilesHaveTheModelsFirsts(t *testing.T) {
	random := rand.New(rand.NewSource(402))
	exhausted, over := 0, 0
	for range 5000 {
		p := randomProfile(random, 1+random.Intn(10), api.KindRank)
		left := randomLeft(random, p.Cands)
		had, lost := checkModel(t, p, left)
		if lost > 0 {
			exhausted++
		}
		if first, _ := checkModel(t, p, slices.Repeat([]bool{true}, 10)); slices.ContainsFunc(upTo(p.Cands), func(c int) bool { return had[c] > first[c] }) {
			over++
		}
	}
	if exhausted < 1500 || over < 1500 {
		t.Errorf("%d times ballots are exhausted, and %d times they go over", exhausted, over)
	}
}

// The ballots that count for a candidate do so as well if others are no longer left.
func TestFewerLeft(t *testing.T) {
	random := rand.New(rand.NewSource(403))
	for range 3000 {
		p := randomProfile(random, 1+random.Intn(10), api.KindRank)
		left := randomLeft(random, p.Cands)
		had, lost := checkModel(t, p, left)
		fewer := slices.Clone(left)
		for c := range fewer {
			fewer[c] = fewer[c] && random.Intn(3) > 0
		}
		now, nowLost := checkModel(t, p, fewer)
		for c, n := range now {
			if modelIsLeft(fewer, c) && n < had[c] || !modelIsLeft(fewer, c) && n != 0 {
				t.Errorf("of %s, left %v: %v; left %v: %v", show(p), left, had, fewer, now)
			}
		}
		if nowLost < lost {
			t.Errorf("of %s, left %v: %d lost; left %v: %d", show(p), left, lost, fewer, nowLost)
		}
	}
}
