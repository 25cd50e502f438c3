package coombs_test

import (
	"math/rand"
	"slices"
	"testing"

	"suffrage/api"
	"suffrage/coombs"
	"suffrage/profile"
)

// P16.2

func checkLasts(t *testing.T, p api.Profile, left []bool, against ...int) {
	t.Helper()
	if l, e := coombs.Lasts(p, left); !slices.Equal(l, against) || e != api.OK {
		t.Errorf("of %s, left %v: %v, %d; want %v", show(p), left, l, int(e), against)
	}
	if l, e := modelLasts(p, left); !slices.Equal(l, against) || e != api.OK {
		t.Errorf("the model: of %s, left %v: %v, %d; want %v", show(p), left, l, int(e), against)
	}
}

func checkNoLasts(t *testing.T, p api.Profile, left []bool) {
	t.Helper()
	if l, e := coombs.Lasts(p, left); l != nil || e != api.ErrBad {
		t.Errorf("of %s, left %v: %v, %d; want nothing, 8", show(p), left[:min(len(left), 50)], l, int(e))
	}
}

// checkModel holds Lasts against the model.
func checkModel(t *testing.T, p api.Profile, left []bool) []int {
	t.Helper()
	l, e := coombs.Lasts(p, left)
	want, wantE := modelLasts(p, left)
	if !slices.Equal(l, want) || e != wantE {
		t.Errorf("of %s, left %v: %v, %d; want %v, %d", show(p), left, l, int(e), want, int(wantE))
	}
	return l
}

// bits returns a list of so many candidates, of which those are left whose bit is set.
func bits(n, set int) []bool {
	left := make([]bool, n)
	for c := range left {
		left[c] = set>>c&1 == 1
	}
	return left
}

// isOf returns a list of so many candidates, of which these are left.
func isOf(cands int, l ...int) []bool {
	left := make([]bool, cands)
	for _, c := range l {
		left[c] = true
	}
	return left
}

// theExample is the profile of the document's example.
func theExample() api.Profile { return ranks(3, row(4, 0, 1, 2), row(3, 1, 0, 2), row(2, 2, 1, 0)) }

func TestLastsOfTheExample(t *testing.T) {
	p := theExample()
	checkLasts(t, p, isOf(3, 0, 1, 2), 2, 0, 7)
	checkLasts(t, p, isOf(3, 0, 1), 5, 4, 0)
	checkLasts(t, p, isOf(3, 0, 2), 2, 0, 7)
	checkLasts(t, p, isOf(3, 1, 2), 0, 2, 7)
	checkLasts(t, p, isOf(3, 0), 9, 0, 0)
	checkLasts(t, p, isOf(3, 1), 0, 9, 0)
	checkLasts(t, p, isOf(3, 2), 0, 0, 9)
	checkLasts(t, p, isOf(3), 0, 0, 0)
}

// Whom a single ballot is against.
func TestWhomABallotIsAgainst(t *testing.T) {
	for _, c := range []struct {
		name                 string
		marks, left, against []int
	}{
		{"a blank one", nil, []int{0, 1, 2, 3, 4}, []int{0, 1, 2, 3, 4}},
		{"a blank one, some left", nil, []int{1, 4}, []int{1, 4}},
		{"a blank one, one left", nil, []int{3}, []int{3}},
		{"a blank one, nobody left", nil, nil, nil},
		{"of all candidates", []int{3, 0, 4, 2, 1}, []int{0, 1, 2, 3, 4}, []int{1}},
		{"of all candidates, the last not left", []int{3, 0, 4, 2, 1}, []int{0, 2, 3, 4}, []int{2}},
		{"of all candidates, the last two not left", []int{3, 0, 4, 2, 1}, []int{0, 3, 4}, []int{4}},
		{"of all candidates, only the last left", []int{3, 0, 4, 2, 1}, []int{1}, []int{1}},
		{"of all candidates, only the first left", []int{3, 0, 4, 2, 1}, []int{3}, []int{3}},
		{"of all candidates, only one between left", []int{3, 0, 4, 2, 1}, []int{4}, []int{4}},
		{"of all candidates, some between not left", []int{3, 0, 4, 2, 1}, []int{1, 3}, []int{1}},
		{"of all candidates, first and last not left", []int{3, 0, 4, 2, 1}, []int{0, 2, 4}, []int{2}},
		{"of all candidates, nobody left", []int{3, 0, 4, 2, 1}, nil, nil},
		{"of just those left", []int{4, 1, 3}, []int{1, 3, 4}, []int{3}},
		{"of more than those left", []int{4, 1, 0, 3}, []int{1, 3, 4}, []int{3}},
		{"of those left, the last not left", []int{4, 3, 1, 0}, []int{1, 3, 4}, []int{1}},
		{"of those left, the last two not left", []int{4, 3, 0, 2}, []int{3, 4}, []int{3}},
		{"of those left, only the first left", []int{4, 3, 0, 2}, []int{4}, []int{4}},
		{"of all but one", []int{3, 0, 2, 1}, []int{0, 1, 2, 3, 4}, []int{4}},
		{"of all left but one", []int{3, 0, 1}, []int{0, 2, 3}, []int{2}},
		{"of all left but one, the last left", []int{3, 0}, []int{0, 2, 3}, []int{2}},
		{"of all left but two", []int{2}, []int{0, 2, 3}, []int{0, 3}},
		{"of one alone", []int{2}, []int{0, 1, 2, 3, 4}, []int{0, 1, 3, 4}},
		{"of one alone, it is left", []int{2}, []int{2}, []int{2}},
		{"of some", []int{3, 1}, []int{0, 1, 2, 3, 4}, []int{0, 2, 4}},
		{"of none of those left", []int{3, 1}, []int{0, 4}, []int{0, 4}},
		{"of none of those left, with one", []int{3, 1}, []int{4}, []int{4}},
	} {
		t.Run(c.name, func(t *testing.T) {
			want := make([]int, 5)
			for _, x := range c.against {
				want[x] = 6
			}
			checkLasts(t, ranks(5, row(6, c.marks...)), isOf(5, c.left...), want...)
		})
	}
}

// manyRankings returns a profile with rankings of each length, in which the numbers of ballots are different powers of two, so that each sum tells whose they are.
func manyRankings() api.Profile {
	return ranks(4, row(1), row(2, 0), row(4, 0, 1), row(8, 0, 1, 2, 3), row(16, 1), row(32, 1, 3, 0), row(64, 2, 0, 3, 1), row(128, 3), row(256, 3, 2, 1), row(512, 3, 2, 1, 0))
}

func TestWhoIsLeft(t *testing.T) {
	p := manyRankings()
	for _, left := range [][]bool{nil, {}, {false}, make([]bool, 3), make([]bool, 4), make([]bool, 5), make([]bool, 100)} {
		checkLasts(t, p, left, 0, 0, 0, 0)
	}
	yes, no := true, false
	for _, c := range []struct {
		left    []bool
		against []int
	}{
		{[]bool{yes, yes, yes, yes}, []int{1 + 16 + 128 + 256 + 512, 1 + 2 + 128 + 64, 1 + 2 + 4 + 16 + 32 + 128, 1 + 2 + 4 + 16 + 8}},
		// One is left: all are against it, whether they rank it or not.
		{[]bool{yes, no, no, no}, []int{1023, 0, 0, 0}},
		{[]bool{no, yes, no, no}, []int{0, 1023, 0, 0}},
		{[]bool{no, no, yes, no}, []int{0, 0, 1023, 0}},
		{[]bool{no, no, no, yes}, []int{0, 0, 0, 1023}},
		// Those who lack one that is left, and those whose last one left it is.
		{[]bool{no, yes, yes, yes}, []int{0, 1 + 2 + 128 + 64 + 256 + 512, 1 + 2 + 4 + 16 + 32 + 128, 1 + 2 + 4 + 16 + 8}},
		{[]bool{no, no, yes, yes}, []int{0, 0, 1 + 2 + 4 + 16 + 32 + 128 + 256 + 512, 1 + 2 + 4 + 16 + 8 + 64}},
		{[]bool{yes, no, no, yes}, []int{1 + 16 + 128 + 256 + 32 + 512, 0, 0, 1 + 2 + 4 + 16 + 8 + 64}},
		{[]bool{yes, yes, no, no}, []int{1 + 16 + 128 + 256 + 32 + 512, 1 + 2 + 128 + 4 + 8 + 64, 0, 0}},
		// Too short a list: the others are not left.
		{[]bool{yes}, []int{1023, 0, 0, 0}},
		{[]bool{yes, yes}, []int{1 + 16 + 128 + 256 + 32 + 512, 1 + 2 + 128 + 4 + 8 + 64, 0, 0}},
		{[]bool{no, yes}, []int{0, 1023, 0, 0}},
		{[]bool{yes, yes, yes}, []int{1 + 16 + 128 + 256 + 512, 1 + 2 + 128 + 64, 1 + 2 + 4 + 16 + 32 + 128 + 8, 0}},
		{[]bool{no, no, yes}, []int{0, 0, 1023, 0}},
	} {
		checkLasts(t, p, c.left, c.against...)
		if len(c.left) < 4 {
			continue
		}
		// What is behind the candidates changes nothing.
		for _, behind := range [][]bool{{yes}, {no}, {no, yes}, {yes, no}, {yes, yes, yes, yes, yes, yes, yes}, make([]bool, 200), slices.Repeat([]bool{yes}, 200)} {
			checkLasts(t, p, slices.Concat(c.left, behind), c.against...)
		}
	}
}

// A list with room behind it is as long as it says.
func TestOnlyTheLengthOfLeftCounts(t *testing.T) {
	left := slices.Repeat([]bool{true}, 4)
	checkLasts(t, theExample(), left[:0], 0, 0, 0)
	checkLasts(t, theExample(), left[:1], 9, 0, 0)
	checkLasts(t, theExample(), left[:2], 5, 4, 0)
	checkLasts(t, theExample(), left[:3], 2, 0, 7)
}

// There is an entry for each candidate of the profile, however long left is: 0 if the candidate is not left.
func TestOneEntryForEachCandidate(t *testing.T) {
	for cands := 1; cands <= 10; cands++ {
		for n := range 13 {
			for _, all := range []bool{true, false} {
				left := slices.Repeat([]bool{all}, n)
				checkLasts(t, ranks(cands), left, make([]int, cands)...)
				blank := make([]int, cands)
				for c := range blank {
					if all && c < n {
						blank[c] = 5
					}
				}
				checkLasts(t, ranks(cands, row(5)), left, blank...)
				if ranked := slices.Clone(blank); cands > 1 { // the first one is ranked, and is the only one left if n is 1
					if n != 1 {
						ranked[0] = 0
					}
					checkLasts(t, ranks(cands, row(5, 0)), left, ranked...)
				}
			}
		}
	}
}

// A ballot that ranks all ten candidates is against the last of those that are left, whoever they are; and one that ranks five of them against the others that are left, or the last of the five.
func TestAnyTenCandidatesLeft(t *testing.T) {
	order := []int{5, 7, 4, 8, 2, 0, 9, 6, 1, 3}
	for set := range 1 << 10 {
		left := slices.DeleteFunc(slices.Clone(order), func(c int) bool { return set>>c&1 == 0 })
		full, half := make([]int, 10), make([]int, 10)
		if len(left) > 0 {
			full[left[len(left)-1]] = 7
		}
		if others := slices.DeleteFunc(slices.Clone(left), func(c int) bool { return slices.Contains(order[:5], c) }); len(others) > 0 {
			for _, c := range others {
				half[c] = 7
			}
		} else {
			half = full
		}
		checkLasts(t, ranks(10, row(7, order...)), bits(10, set), full...)
		checkLasts(t, ranks(10, row(7, order[:5]...)), bits(10, set), half...)
	}
}

func TestLastsAtTheLimits(t *testing.T) {
	checkLasts(t, ranks(2, row(1000000, 1)), []bool{true, true}, 1000000, 0)
	checkLasts(t, ranks(2, row(1000000, 1)), []bool{false, true}, 0, 1000000)
	checkLasts(t, ranks(2, row(1000000)), []bool{true, true}, 1000000, 1000000)
	checkLasts(t, ranks(2, row(1), row(499999, 0), row(500000, 1, 0)), []bool{true, true}, 500001, 500000)
	checkLasts(t, ranks(10, row(1000000)), slices.Repeat([]bool{true}, 10), slices.Repeat([]int{1000000}, 10)...)
	for _, p := range []api.Profile{fullProfile(1), unevenProfile()} {
		if many, e := profile.Many(p); e != api.OK || many != 1000000 || len(p.Rows) != 64 {
			t.Fatal(many, int(e))
		}
		for set := range 1 << 10 {
			checkModel(t, p, bits(10, set))
		}
	}
}

// fullProfile returns a profile with 64 rows and a million ballots.
func fullProfile(kind uint8) api.Profile {
	random := rand.New(rand.NewSource(501))
	p := of(10, kind)
	for len(p.Rows) < 64 {
		p.Rows = append(p.Rows, row(15625, randomMarks(random, 10, kind)...))
		slices.SortFunc(p.Rows, func(r, s api.Row) int { return slices.Compare(r.Marks, s.Marks) })
		p.Rows = slices.CompactFunc(p.Rows, func(r, s api.Row) bool { return slices.Equal(r.Marks, s.Marks) })
	}
	return p
}

// unevenProfile is a full one in which a row has almost all ballots.
func unevenProfile() api.Profile {
	p := fullProfile(1)
	for i := range p.Rows {
		p.Rows[i].Many = 1
	}
	p.Rows[40].Many = 999937
	return p
}

// Errors

func TestNoLastsOfWrongProfiles(t *testing.T) {
	for _, l := range wrongProfiles() {
		for _, p := range l {
			for _, left := range [][]bool{nil, {true}, {true, true}, {false, true, true}, make([]bool, 11)} {
				checkNoLasts(t, p, left)
			}
		}
	}
}

func TestNoLastsOfOtherKinds(t *testing.T) {
	for kind := range 256 {
		for _, p := range []api.Profile{of(2, uint8(kind)), of(2, uint8(kind), row(1, 0, 1)), of(1, uint8(kind), row(1, 0)), of(3, uint8(kind), row(1))} {
			if kind == 1 {
				checkModel(t, p, []bool{true, true})
				continue
			}
			checkNoLasts(t, p, []bool{true, true})
			checkNoLasts(t, p, nil)
		}
	}
	for kind := uint8(2); kind <= 3; kind++ {
		if p := fullProfile(kind); profile.Check(p) != api.OK {
			t.Fatal(show(p))
		}
		checkNoLasts(t, fullProfile(kind), slices.Repeat([]bool{true}, 10))
	}
}

// The model

// All small profiles, with each list that is shorter than, as long as or longer than their candidates.
func TestSmallProfilesHaveTheModelsLasts(t *testing.T) {
	for _, p := range smallProfiles() {
		for n := range p.Cands + 2 {
			for set := range 1 << n {
				checkModel(t, p, bits(n, set))
			}
		}
	}
}

func TestRandomProfilesHaveTheModelsLasts(t *testing.T) {
	random := rand.New(rand.NewSource(502))
	none, over := 0, 0
	for range 5000 {
		p := randomProfile(random, 1+random.Intn(10), api.KindRank)
		against := checkModel(t, p, randomLeft(random, p.Cands))
		if slices.Max(against) == 0 {
			none++
		}
		if first := checkModel(t, p, slices.Repeat([]bool{true}, 10)); slices.ContainsFunc(upTo(p.Cands), func(c int) bool { return against[c] > first[c] }) {
			over++
		}
	}
	if none < 100 || none > 2500 || over < 1000 {
		t.Errorf("%d times no ballot is against anybody, and %d times some go over", none, over)
	}
}

// The ballots that are against a candidate are so as well if others are no longer left.
func TestFewerLeft(t *testing.T) {
	random := rand.New(rand.NewSource(503))
	more := 0
	for range 3000 {
		p := randomProfile(random, 1+random.Intn(10), api.KindRank)
		left := randomLeft(random, p.Cands)
		against := checkModel(t, p, left)
		fewer := slices.Clone(left)
		for c := range fewer {
			fewer[c] = fewer[c] && random.Intn(3) > 0
		}
		for c, n := range checkModel(t, p, fewer) {
			if modelIsLeft(fewer, c) && n < against[c] || !modelIsLeft(fewer, c) && n != 0 {
				t.Errorf("of %s, left %v: %v; left %v: %d has %d", show(p), left, against, fewer, c, n)
			}
			if n > against[c] {
				more++
			}
		}
	}
	if more < 500 {
		t.Errorf("%d times there are more", more)
	}
}

// The lasts of a sum are the sums of the lasts.
func TestLastsOfASum(t *testing.T) {
	random := rand.New(rand.NewSource(504))
	for range 2000 {
		cands := 1 + random.Intn(10)
		p, q := randomProfile(random, cands, api.KindRank), randomProfile(random, cands, api.KindRank)
		sum, e := profile.Sum(p, q)
		if e != api.OK {
			continue
		}
		left := randomLeft(random, cands)
		both := checkModel(t, sum, left)
		more := checkModel(t, q, left)
		for c, n := range checkModel(t, p, left) {
			if both[c] != n+more[c] {
				t.Errorf("of %s and %s, left %v: %v; %d has %d and %d", show(p), show(q), left, both, c, n, more[c])
			}
		}
	}
}
