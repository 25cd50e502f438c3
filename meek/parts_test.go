package meek_test

import (
	"math"
	"math/rand"
	"slices"
	"testing"

	"suffrage/api"
	"suffrage/meek"
)

// P19.2, Parts

func checkParts(t *testing.T, marks, keeps []int) {
	t.Helper()
	parts, rest, e := meek.Parts(marks, keeps)
	want, wantRest, wantE := modelParts(marks, keeps)
	if !slices.Equal(parts, want) || rest != wantRest || e != wantE {
		t.Errorf("Parts(%v, %v) = %v, %d, %d; want %v, %d, %d", marks[:min(len(marks), 50)], keeps[:min(len(keeps), 50)], parts, rest, int(e), want, wantRest, int(wantE))
	}
}

func checkNoParts(t *testing.T, marks, keeps []int) {
	t.Helper()
	if parts, rest, e := meek.Parts(marks, keeps); parts != nil || rest != 0 || e != api.ErrArg {
		t.Errorf("Parts(%v, %v) = %v, %d, %d; want nothing, 2", marks[:min(len(marks), 50)], keeps[:min(len(keeps), 50)], parts, rest, int(e))
	}
	checkParts(t, marks, keeps)
}

func TestP19_2Parts(t *testing.T) {
	for _, c := range []struct {
		marks, keeps, want []int
		rest               int
	}{
		{[]int{0, 1}, []int{555555556, unit, unit}, []int{555555556, 444444444, 0}, 0}, // the example's
		{[]int{1, 0}, []int{555555556, unit, unit}, []int{0, unit, 0}, 0},              // nothing remains
		{[]int{0, 1, 2}, []int{unit, unit, unit}, []int{unit, 0, 0}, 0},
		{[]int{2, 0, 1}, []int{unit, unit, unit}, []int{0, 0, unit}, 0},
		{[]int{2, 0, 1}, []int{0, unit, 0}, []int{0, unit, 0}, 0},
		// Exact products.
		{[]int{0, 1, 2}, []int{unit / 2, unit / 2, unit / 2}, []int{unit / 2, unit / 4, unit / 8}, unit / 8},
		{[]int{2, 1, 0}, []int{unit / 2, unit / 4, unit / 5}, []int{300000000, 200000000, 200000000}, 300000000},
		{[]int{1}, []int{7, 123456789, 8}, []int{0, 123456789, 0}, 876543211},
		{[]int{1, 0}, []int{unit / 4, unit / 4}, []int{187500000, unit / 4}, 562500000},
		// Products that are rounded up.
		{[]int{0, 1}, []int{333333333, 333333333}, []int{333333333, 222222223}, 444444444},
		{[]int{0, 1}, []int{333333334, 333333334}, []int{333333334, 222222223}, 444444443},
		{[]int{0, 1, 2}, []int{unit - 1, unit / 2, unit / 2}, []int{unit - 1, 1, 0}, 0}, // half of a billionth is one
		{[]int{0, 1, 2}, []int{unit - 1, 1, unit}, []int{unit - 1, 1, 0}, 0},
		{[]int{0, 1, 2}, []int{unit - 1, 0, unit}, []int{unit - 1, 0, 1}, 0},
		{[]int{0, 1, 2}, []int{unit - 2, unit / 2, unit}, []int{unit - 2, 1, 1}, 0},
		{[]int{0, 1, 2}, []int{1, 1, 1}, []int{1, 1, 1}, unit - 3},
		{[]int{1, 0}, []int{unit - 1, unit - 1}, []int{1, unit - 1}, 0},
		// What nobody keeps.
		{[]int{0, 1, 2}, []int{0, 0, 0}, []int{0, 0, 0}, unit},
		{nil, []int{0, 0, 0}, []int{0, 0, 0}, unit},
		{nil, []int{unit, unit, unit}, []int{0, 0, 0}, unit}, // a blank ballot
		{nil, []int{unit}, []int{0}, unit},
		{[]int{0}, []int{unit}, []int{unit}, 0},
		{[]int{0}, []int{unit - 1}, []int{unit - 1}, 1},
		{[]int{0}, []int{1}, []int{1}, unit - 1},
		{[]int{0}, []int{0}, []int{0}, unit},
		// Who is not on the ballot has no part.
		{[]int{1}, []int{unit, 0, unit}, []int{0, 0, 0}, unit},
		{[]int{3}, []int{unit, unit, unit, 600000000, unit}, []int{0, 0, 0, 600000000, 0}, 400000000},
		{[]int{4, 2}, []int{unit, unit, unit / 2, unit, unit / 2}, []int{0, 0, unit / 4, 0, unit / 2}, unit / 4},
		// Ten candidates.
		{downFrom(10), slices.Repeat([]int{unit / 2}, 10), []int{976563, 1953125, 3906250, 7812500, 15625000, 31250000, 62500000, 125000000, 250000000, 500000000}, 976562},
		{[]int{9}, slices.Repeat([]int{unit}, 10), []int{0, 0, 0, 0, 0, 0, 0, 0, 0, unit}, 0},
		{upTo(10), append(make([]int, 9), unit), []int{0, 0, 0, 0, 0, 0, 0, 0, 0, unit}, 0},
	} {
		parts, rest, e := meek.Parts(c.marks, c.keeps)
		if !slices.Equal(parts, c.want) || rest != c.rest || e != api.OK {
			t.Errorf("Parts(%v, %v) = %v, %d, %d; want %v, %d", c.marks, c.keeps, parts, rest, int(e), c.want, c.rest)
		}
		checkParts(t, c.marks, c.keeps)
	}
}

func TestP19_2PartsOfSoManyCandidates(t *testing.T) {
	for cands := range 30 {
		keeps := slices.Repeat([]int{unit / 3}, cands)
		for _, marks := range [][]int{nil, {}, {0}, upTo(cands), upTo(min(cands, 10))} {
			if cands < 1 || cands > 10 {
				checkNoParts(t, marks, keeps)
				continue
			}
			checkParts(t, marks, keeps)
			if parts, _, e := meek.Parts(marks, keeps); len(parts) != cands || e != api.OK {
				t.Errorf("Parts(%v, %v) has %d parts, error %d", marks, keeps, len(parts), int(e))
			}
		}
	}
	checkNoParts(t, nil, nil)
	checkNoParts(t, []int{}, []int{})
	checkNoParts(t, []int{0}, nil)
}

// Each wrong keep value alone among valid ones, also of a candidate that is not on the ballot.
func TestP19_2PartsOfWrongKeepValues(t *testing.T) {
	for cands := 1; cands <= 10; cands++ {
		for at := range cands {
			for _, keep := range append(wilds(), 5+1<<32, 5-1<<32, unit+1<<32, unit-1<<32, unit+1<<62) {
				for _, other := range []int{0, 1, unit - 1, unit} {
					keeps := slices.Repeat([]int{other}, cands)
					keeps[at] = keep
					for _, marks := range [][]int{nil, upTo(cands), downFrom(cands), {at}, others(upTo(cands), at)} {
						if keep < 0 || keep > unit {
							checkNoParts(t, marks, keeps)
							continue
						}
						checkParts(t, marks, keeps)
					}
				}
			}
		}
	}
	checkNoParts(t, []int{0}, []int{-1, -1})
	checkNoParts(t, []int{0}, []int{unit + 1, unit + 1})
}

func TestP19_2PartsOfWrongMarks(t *testing.T) {
	for cands := 1; cands <= 10; cands++ {
		keeps := slices.Repeat([]int{unit / 3}, cands)
		for _, marks := range [][]int{
			{-1}, {cands}, {math.MinInt}, {math.MaxInt}, {0, 0}, {cands - 1, cands - 1}, {0, -1}, {0, cands}, {1 << 32}, {-1 << 32}, {1 << 8}, {10}, {11},
			append(upTo(cands), 0), append(upTo(cands), cands), append(upTo(cands), -1), append(upTo(cands), cands-1), append([]int{-1}, upTo(cands)...), append([]int{cands - 1}, upTo(cands)...), make([]int, 11), make([]int, 300), upTo(300),
		} {
			checkNoParts(t, marks, keeps)
			checkNoParts(t, marks, make([]int, cands))
		}
		for at := range cands {
			for _, wild := range wilds() {
				marks := upTo(cands)
				if marks[at] = wild; wild != at {
					checkNoParts(t, marks, keeps)
				}
			}
		}
	}
	// A valid ranking among more candidates.
	checkNoParts(t, []int{0, 2}, []int{unit, unit})
	checkParts(t, []int{0, 2}, []int{unit, unit, 0})
}

// All rankings of a few candidates, with keep values at the edges.
func TestP19_2PartsOfAllRankings(t *testing.T) {
	values := []int{0, 1, 2, unit / 3, unit/2 + 1, unit - 1, unit}
	for _, lot := range lots(3) {
		for n := range 4 {
			for _, a := range values {
				for _, b := range values {
					for _, c := range values {
						checkParts(t, lot[:n], []int{a, b, c})
					}
				}
			}
		}
	}
}

// Small keep values: every part is that of what remains, rounded up, and therefore never nothing of something.
func TestP19_2PartsOfRandomBallots(t *testing.T) {
	random := rand.New(rand.NewSource(1921))
	exact, rounded := 0, 0
	for range 40000 {
		cands := 1 + random.Intn(10)
		var keeps []int
		for range cands {
			keeps = append(keeps, []int{0, 1, unit - 1, unit, unit / 2, random.Intn(unit + 1), random.Intn(unit + 1), random.Intn(1000) * million}[random.Intn(8)])
		}
		marks := random.Perm(cands)[:random.Intn(cands+1)]
		checkParts(t, marks, keeps)
		parts, rest, e := meek.Parts(marks, keeps)
		remaining := unit
		for _, c := range marks {
			if over := parts[c]*unit - remaining*keeps[c]; over < 0 || over >= unit {
				t.Errorf("Parts(%v, %v): %d is too much or too little for %d", marks, keeps, parts[c], c)
			} else if over == 0 {
				exact++
			} else {
				rounded++
			}
			remaining -= parts[c]
		}
		if e != api.OK || rest != remaining {
			t.Errorf("Parts(%v, %v): the rest is %d, and %d remain", marks, keeps, rest, remaining)
		}
	}
	if exact < 10000 || rounded < 10000 {
		t.Errorf("%d products are exact, and %d are rounded up", exact, rounded)
	}
}

// The parts and the rest of a ballot are all of it, and none is negative.
func TestP19_2PartsAddUp(t *testing.T) {
	random := rand.New(rand.NewSource(1922))
	for range 20000 {
		cands := 1 + random.Intn(10)
		var keeps []int
		for range cands {
			keeps = append(keeps, unit-random.Intn(1+random.Intn(unit+1)))
		}
		marks := random.Perm(cands)[:random.Intn(cands+1)]
		parts, rest, e := meek.Parts(marks, keeps)
		sum := rest
		for c, part := range parts {
			sum += part
			if part < 0 || part > 0 && !slices.Contains(marks, c) {
				t.Errorf("Parts(%v, %v): %d has %d", marks, keeps, c, part)
			}
		}
		if e != api.OK || rest < 0 || sum != unit {
			t.Errorf("Parts(%v, %v) = %v, %d, %d", marks, keeps, parts, rest, int(e))
		}
	}
}
