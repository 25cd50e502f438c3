package phragmen_test

import (
	"math/rand"
	"slices"
	"strings"
	"testing"

	"suffrage/api"
	"suffrage/phragmen"
	"suffrage/profile"
)

// P21.2

func TestP21_2TheExample(t *testing.T) {
	p := theExample() // the rows are 0, 0 1 and 2
	for _, c := range []struct {
		elected []int
		want    string
	}{
		{nil, "0 0 0"},
		{[]int{}, "0 0 0"},
		{[]int{0}, "1/5 1/5 0"},
		{[]int{1}, "0 1/3 0"},
		{[]int{2}, "0 0 1/4"},
		{[]int{0, 2}, "1/5 1/5 1/4"},
		{[]int{2, 0}, "1/5 1/5 1/4"},
		{[]int{0, 1}, "1/5 8/15 0"},
		{[]int{1, 0}, "2/5 2/5 0"},
		{[]int{0, 2, 1}, "1/5 8/15 1/4"},
		{[]int{0, 1, 2}, "1/5 8/15 1/4"},
		{[]int{2, 0, 1}, "1/5 8/15 1/4"},
		{[]int{1, 0, 2}, "2/5 2/5 1/4"},
		{[]int{1, 2, 0}, "2/5 2/5 1/4"},
		{[]int{2, 1, 0}, "2/5 2/5 1/4"},
	} {
		checkLoads(t, p, c.elected, c.want)
	}
}

// zeros returns so many loads of 0.
func zeros(n int) string { return strings.Repeat("0 ", n) }

func TestP21_2NobodyElected(t *testing.T) {
	for _, none := range [][]int{nil, {}} {
		for _, p := range []api.Profile{of(1, 2), of(10, 2), of(2, 2, row(3)), of(1, 2, row(1, 0)), theExample(), fullProfile(2), primeProfile()} {
			checkLoads(t, p, none, zeros(len(p.Rows)))
		}
	}
}

func TestP21_2NoRows(t *testing.T) {
	for cands := 1; cands <= 5; cands++ {
		for _, elected := range lots(cands) {
			for some := range cands + 1 {
				checkLoads(t, of(cands, 2), elected[:some], "")
				checkLoads(t, api.Profile{Cands: cands, Kind: 2, Rows: []api.Row{}}, elected[:some], "")
			}
		}
	}
}

// The ballots without marks never have a load.
func TestP21_2BlankBallots(t *testing.T) {
	for _, n := range []int{1, 7, 999991} {
		p := theExample()
		p.Rows = slices.Insert(p.Rows, 0, row(n))
		checkLoads(t, p, []int{0, 1, 2}, "0 1/5 8/15 1/4")
		checkLoads(t, p, []int{1, 0}, "0 2/5 2/5 0")
		checkLoads(t, of(2, 2, row(n)), []int{1, 0}, "0")
	}
	checkLoads(t, of(1, 2, row(million)), []int{0}, "0")
}

// To elect a candidate without support changes no load.
func TestP21_2NoSupport(t *testing.T) {
	p := of(5, 2, row(2), row(3, 1), row(2, 1, 3))
	for _, c := range []struct {
		elected []int
		want    string
	}{
		{[]int{0}, "0 0 0"},
		{[]int{4, 2, 0}, "0 0 0"},
		{[]int{0, 1}, "0 1/5 1/5"},
		{[]int{1, 0}, "0 1/5 1/5"},
		{[]int{4, 1, 2, 3, 0}, "0 1/5 7/10"},
		{[]int{1, 3}, "0 1/5 7/10"},
		{[]int{3, 0, 1, 4}, "0 2/5 2/5"},
		{[]int{3, 1}, "0 2/5 2/5"},
	} {
		checkLoads(t, p, c.elected, c.want)
	}
}

func TestP21_2OneBallot(t *testing.T) {
	p := of(4, 2, row(1, 0, 1, 2))
	for _, elected := range lots(4) {
		n := 0
		for some, c := range elected {
			checkLoads(t, p, elected[:some], []string{"0", "1", "2", "3"}[n])
			if c != 3 {
				n++
			}
		}
		checkLoads(t, p, elected, "3")
	}
}

// The load becomes the cost, whatever it was before: less, as much, or more. Candidates may be elected in an order that no count would have, in which loads may decrease.
func TestP21_2LoadsBecomeTheCost(t *testing.T) {
	p := of(3, 2, row(1, 0, 1), row(1, 0, 1, 2), row(98, 1), row(2, 2))
	checkLoads(t, p, []int{0}, "1/2 1/2 0 0")
	checkLoads(t, p, []int{0, 1}, "1/50 1/50 1/50 0")
	checkLoads(t, p, []int{0, 1, 2}, "1/50 17/50 1/50 17/50")
	checkLoads(t, p, []int{0, 2}, "1/2 1/2 0 1/2")
	checkLoads(t, p, []int{0, 2, 1}, "1/50 1/50 1/50 1/2")
	checkLoads(t, p, []int{2, 0}, "2/3 2/3 0 1/3")
	checkLoads(t, p, []int{2, 0, 1}, "7/300 7/300 7/300 1/3")
	checkLoads(t, p, []int{1, 0, 2}, "51/100 151/300 1/100 151/300")
}

// Every ballot of a row counts.
func TestP21_2ManyBallots(t *testing.T) {
	p := of(2, 2, row(million-3, 0), row(1, 0, 1), row(2, 1))
	checkLoads(t, p, []int{0}, "1/999998 1/999998 0")
	checkLoads(t, p, []int{1}, "0 1/3 1/3")
	checkLoads(t, p, []int{0, 1}, "1/999998 999999/2999994 999999/2999994")
	checkLoads(t, p, []int{1, 0}, "2/1499997 2/1499997 1/3")
	checkLoads(t, of(1, 2, row(million, 0)), []int{0}, "1/1000000")
}

// After ten elections with as many ballots as the limits allow. The loads are computed apart from the program.
func TestP21_2LongNumbers(t *testing.T) {
	p := primeProfile()
	last := "9993498821473570226948980350013665943758105589607584717/999336190967723582674863368881056013918869540770058409738499"
	but9 := "8995375010226612146195044084879538459430829313949/999473118784997127281300907105329444052704761322359573"
	checkLoads(t, p, upTo(10), but9+strings.Repeat(" "+last, 10))
	checkModelLoads(t, p, downFrom(10))
	for _, p := range []api.Profile{fullProfile(2), unevenProfile()} {
		checkModelLoads(t, p, upTo(10))
		checkModelLoads(t, p, downFrom(10))
	}
}

// The loads after a count's elections are those of the count: each supporter of the one elected last has the cost of that round.
func TestP21_2LoadsOfACount(t *testing.T) {
	random := rand.New(rand.NewSource(2121))
	long := 0
	for range 500 {
		p := anyProfile(random)
		o := count(t, p, p.Cands, random.Perm(p.Cands))
		before := loadsOf(t, p, nil)
		for at, c := range o.Elected {
			loads := loadsOf(t, p, o.Elected[:at+1])
			for i, r := range p.Rows {
				want := before[i]
				if slices.Contains(r.Marks, c) {
					want = o.Rounds[at].Had[c]
				}
				if !sameNumber(loads[i], want) {
					t.Errorf("Loads(%s, %v) = %s after %s", show(p), o.Elected[:at+1], textsOf(loads), textsOf(before))
				}
			}
			for _, load := range loads {
				long = max(long, len(load.Den))
			}
			before = loads
		}
	}
	if long < 3 {
		t.Errorf("the longest denominators have %d limbs", long)
	}
}

// Every list of candidates of small profiles, in each order.
func TestP21_2EveryOrder(t *testing.T) {
	random := rand.New(rand.NewSource(2122))
	for cands := 1; cands <= 4; cands++ {
		for range 30 {
			p := levelProfile(random, cands)
			if random.Intn(2) == 0 {
				p = randomProfile(random, cands)
			}
			for _, elected := range lots(cands) {
				for some := range cands + 1 {
					checkModelLoads(t, p, elected[:some])
				}
			}
		}
	}
}

func TestP21_2RandomProfiles(t *testing.T) {
	random := rand.New(rand.NewSource(2123))
	for range 2000 {
		p := anyProfile(random)
		if _, e := checkModelLoads(t, p, random.Perm(p.Cands)[:random.Intn(p.Cands+1)]); e != api.OK {
			t.Errorf("%s: error %d", show(p), int(e))
		}
	}
}

// Errors

func TestP21_2WrongProfiles(t *testing.T) {
	for _, p := range badProfiles() {
		for _, elected := range [][]int{nil, {0}, {0, 1}, {1, 1}, {-1}, {99}} {
			checkNoLoads(t, p, elected, api.ErrBad)
		}
	}
	for kind := range 256 {
		if kind != 2 {
			checkNoLoads(t, of(2, uint8(kind)), nil, api.ErrBad)
			checkNoLoads(t, of(2, uint8(kind), row(1, 0, 1)), []int{0}, api.ErrBad)
		}
	}
}

func TestP21_2WrongElected(t *testing.T) {
	for cands := 1; cands <= 10; cands++ {
		for _, p := range []api.Profile{of(cands, 2), of(cands, 2, row(3)), of(cands, 2, row(3, cands-1)), of(cands, 2, row(2, upTo(cands)...))} {
			for _, elected := range wrongElected(cands) {
				checkNoLoads(t, p, elected, api.ErrArg)
			}
		}
	}
	p := fullProfile(2)
	if loads, e := phragmen.Loads(p, upTo(11)); e != api.ErrArg || loads != nil || profile.Check(p) != api.OK {
		t.Errorf("Loads(%s, %v) = %s, %d", show(p), upTo(11), textsOf(loads), int(e))
	}
}
