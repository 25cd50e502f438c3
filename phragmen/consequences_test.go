package phragmen_test

import (
	"math/big"
	"math/rand"
	"slices"
	"testing"

	"suffrage/api"
	"suffrage/phragmen"
	"suffrage/profile"
)

// P21.4

// sumOf returns the sum of the loads of all ballots.
func sumOf(p api.Profile, loads []api.Ratio) *big.Rat {
	sum := new(big.Rat)
	for i, r := range p.Rows {
		sum.Add(sum, new(big.Rat).Mul(big.NewRat(int64(r.Many), 1), ratOf(loads[i])))
	}
	return sum
}

// supported returns how many of the list have support.
func supported(p api.Profile, l []int) int {
	n := 0
	for _, c := range l {
		if slices.ContainsFunc(p.Rows, func(r api.Row) bool { return slices.Contains(r.Marks, c) }) {
			n++
		}
	}
	return n
}

// Loads never decrease in a count, nor does the least cost; and the load of no ballot is greater than the cost that was paid last.
func TestP21_4LoadsNeverDecrease(t *testing.T) {
	random := rand.New(rand.NewSource(2141))
	more, as := 0, 0
	for range 1000 {
		p := anyProfile(random)
		o := count(t, p, p.Cands, random.Perm(p.Cands))
		before, last := loadsOf(t, p, nil), new(big.Rat)
		for at, c := range o.Elected {
			loads := loadsOf(t, p, o.Elected[:at+1])
			if cost := ratOf(o.Rounds[at].Had[c]); cost.Sign() > 0 {
				if cost.Cmp(last) < 0 {
					t.Errorf("%s: the costs of %s decrease", show(p), tell(o))
				}
				last = cost
			}
			for i := range loads {
				switch order := ratOf(loads[i]).Cmp(ratOf(before[i])); {
				case order < 0 || ratOf(loads[i]).Cmp(last) > 0:
					t.Errorf("%s: the loads %s become %s", show(p), textsOf(before), textsOf(loads))
				case order > 0:
					more++
				default:
					as++
				}
			}
			before = loads
		}
	}
	if more < 5000 || as < 5000 {
		t.Errorf("%d loads increase, and %d stay", more, as)
	}
}

// The sum of the loads of all ballots is the number of those elected that have support, in a count and in any order.
func TestP21_4TheSumOfTheLoads(t *testing.T) {
	random := rand.New(rand.NewSource(2142))
	some, all := 0, 0
	for range 2000 {
		p := anyProfile(random)
		seats, lot := 1+random.Intn(p.Cands), random.Perm(p.Cands)
		for _, elected := range [][]int{count(t, p, seats, lot).Elected, lot[:seats], nil} {
			want := supported(p, elected)
			if sum := sumOf(p, loadsOf(t, p, elected)); sum.Cmp(big.NewRat(int64(want), 1)) != 0 {
				t.Errorf("the loads of %s after %v add up to %v; want %d", show(p), elected, sum, want)
			}
			if want < len(elected) {
				some++
			} else {
				all++
			}
		}
	}
	for _, p := range []api.Profile{primeProfile(), fullProfile(2), unevenProfile()} {
		if sum := sumOf(p, loadsOf(t, p, downFrom(10))); sum.Cmp(big.NewRat(10, 1)) != 0 {
			t.Errorf("the loads of %s add up to %v", show(p), sum)
		}
	}
	if some < 500 || all < 1000 {
		t.Errorf("%d lists have candidates without support, and %d have none", some, all)
	}
}

// With one seat more, the same candidates are elected first, in the same rounds and with the same ties, and then one more.
func TestP21_4HouseMonotone(t *testing.T) {
	random := rand.New(rand.NewSource(2143))
	tied := 0
	for range 1500 {
		p := anyProfile(random)
		lot := random.Perm(p.Cands)
		before := api.Outcome{}
		for seats := 1; seats <= p.Cands; seats++ {
			o := count(t, p, seats, lot)
			if !slices.Equal(o.Elected[:seats-1], before.Elected) || !slices.EqualFunc(o.Rounds[:seats-1], before.Rounds, sameRound) {
				t.Errorf("%s, lot %v: %s, and with a seat more %s", show(p), lot, tell(before), tell(o))
			}
			if len(o.Ties) < len(before.Ties) || len(o.Ties) > len(before.Ties)+1 || !sameTies(o.Ties[:len(before.Ties)], before.Ties) {
				t.Errorf("%s, lot %v: %s, and with a seat more %s", show(p), lot, tell(before), tell(o))
			}
			before = o
		}
		tied += len(before.Ties)
	}
	if tied < 1000 {
		t.Errorf("there are %d ties", tied)
	}
}

// The first one elected is one with the greatest support, of whom the lot chooses.
func TestP21_4TheGreatestSupport(t *testing.T) {
	random := rand.New(rand.NewSource(2144))
	alone, several := 0, 0
	for range 5000 {
		p := anyProfile(random)
		lot := random.Perm(p.Cands)
		supports := make([]int, p.Cands)
		for _, r := range p.Rows {
			for _, c := range r.Marks {
				supports[c] += r.Many
			}
		}
		greatest := slices.DeleteFunc(slices.Clone(lot), func(c int) bool { return supports[c] < slices.Max(supports) })
		o := count(t, p, 1, lot)
		if o.Elected[0] != greatest[0] {
			t.Errorf("%s, lot %v: %s", show(p), lot, tell(o))
		}
		if len(greatest) == 1 {
			alone++
			continue
		}
		several++
		if !sameTies(o.Ties, ties(tie(greatest[0], inOrder(greatest)...))) {
			t.Errorf("%s, lot %v: %s", show(p), lot, tell(o))
		}
	}
	if alone < 1000 || several < 1000 {
		t.Errorf("%d times one candidate has the greatest support, and %d times several", alone, several)
	}
}

// within reports whether all of l is in the set.
func within(l, set []int) bool {
	return !slices.ContainsFunc(l, func(c int) bool { return !slices.Contains(set, c) })
}

// unjust returns a group that is not represented in proportion: a set that all its ballots mark, and how many are due; or false if there is none. A group is one of all ballots that mark the set, and nobody outside a greater one; a smaller group with the same marks is due no more.
func unjust(p api.Profile, elected []int) (set []int, due int, found bool) {
	marked := 0
	for _, r := range p.Rows {
		if len(r.Marks) > 0 {
			marked += r.Many
		}
	}
	for _, greater := range sets(p.Cands) {
		for _, set := range sets(p.Cands) {
			many := 0
			var marks []int
			for _, r := range p.Rows {
				if within(set, r.Marks) && within(r.Marks, greater) {
					many, marks = many+r.Many, append(marks, r.Marks...)
				}
			}
			due := len(set)
			for many > 0 && many*len(elected) < due*marked {
				due--
			}
			has := 0
			for _, c := range elected {
				if slices.Contains(marks, c) {
					has++
				}
			}
			if many > 0 && has < due {
				return set, due, true
			}
		}
	}
	return nil, 0, false
}

// Groups are represented in proportion: sets of each size, each group of ballots, and each number of seats.
func TestP21_4ProportionalJustifiedRepresentation(t *testing.T) {
	random := rand.New(rand.NewSource(2145))
	unjustLots := 0
	for range 700 {
		cands := 1 + random.Intn(5)
		p := levelProfile(random, cands)
		if random.Intn(3) > 0 {
			p = randomProfile(random, cands)
		}
		lot := random.Perm(cands)
		all := count(t, p, cands, lot).Elected
		for seats := 1; seats <= cands; seats++ {
			if set, due, found := unjust(p, all[:seats]); found {
				t.Errorf("%s, lot %v: of %v, %d are due in %v", show(p), lot, set, due, all[:seats])
			}
			if _, _, found := unjust(p, lot[:seats]); found {
				unjustLots++
			}
		}
	}
	if unjustLots < 100 {
		t.Errorf("of the lists in the order of the lot, %d are unjust", unjustLots)
	}
}

// split returns rows of so many ballots, each for one of the candidates, as evenly as may be.
func split(many int, cands []int) []api.Row {
	var rows []api.Row
	for at, c := range cands {
		n := many / len(cands)
		if at < many%len(cands) {
			n++
		}
		if n > 0 {
			rows = append(rows, row(n, c))
		}
	}
	return rows
}

// Groups whose number is just what is needed for so many seats, which mark as many candidates or more; the lot favors all others.
func TestP21_4GroupsOfJustThatSize(t *testing.T) {
	for seats := 2; seats <= 10; seats++ {
		for due := 1; due < seats; due++ {
			for size := due; size < 10; size++ {
				for _, times := range []int{1, 7, 99999} {
					set, rest := upTo(size), upTo(10)[size:]
					p := marking(10, append(split((seats-due)*times, rest), row(due*times, set...), row(5))...)
					if marked, e := profile.Marked(p); e != api.OK || marked != seats*times {
						t.Fatal(show(p), marked, int(e))
					}
					o := count(t, p, seats, downFrom(10))
					if n := len(slices.DeleteFunc(slices.Clone(o.Elected), func(c int) bool { return c >= size })); n < due {
						t.Errorf("%s: of %v, %d are due in %s", show(p), set, due, tell(o))
					}
				}
			}
		}
	}
}

// Renaming the candidates, and the lot with them, renames the outcome, the loads, and the costs.
func TestP21_4RenamingRenamesTheOutcome(t *testing.T) {
	random := rand.New(rand.NewSource(2146))
	tied := 0
	for range 2000 {
		p := anyProfile(random)
		seats, lot, perm := 1+random.Intn(p.Cands), random.Perm(p.Cands), random.Perm(p.Cands)
		q, e := profile.Rename(p, perm)
		if e != api.OK {
			t.Fatal(show(p), int(e))
		}
		want := modelRename(count(t, p, seats, lot), perm)
		if o := count(t, q, seats, called(lot, perm)); !same(o, want) {
			t.Errorf("%s, lot %v, renamed by %v: %s; want %s", show(p), lot, perm, tell(o), tell(want))
		}
		tied += len(want.Ties)
		loads, renamed := loadsOf(t, p, lot[:seats]), loadsOf(t, q, called(lot[:seats], perm))
		for i, r := range p.Rows {
			at := slices.IndexFunc(q.Rows, func(s api.Row) bool { return slices.Equal(s.Marks, inOrder(called(r.Marks, perm))) })
			if !sameNumber(loads[i], renamed[at]) {
				t.Errorf("%s after %v, renamed by %v: %s and %s", show(p), lot[:seats], perm, textsOf(loads), textsOf(renamed))
			}
		}
		for c := range p.Cands {
			cost, ok, e := phragmen.Cost(p, loads, c)
			if other, otherOK, otherE := phragmen.Cost(q, renamed, perm[c]); !sameNumber(cost, other) || ok != otherOK || e != otherE {
				t.Errorf("%s after %v, renamed by %v: %d costs %s, and %s", show(p), lot[:seats], perm, c, textOf(cost), textOf(other))
			}
		}
	}
	if tied < 1000 {
		t.Errorf("%d ties are renamed", tied)
	}
}

// If all counts are multiplied by the same number, the same candidates are elected, and the costs are divided by it.
func TestP21_4MultiplyingAllCounts(t *testing.T) {
	random := rand.New(rand.NewSource(2147))
	for range 300 {
		p := anyProfile(random)
		many, e := profile.Many(p)
		if e != api.OK {
			t.Fatal(show(p), int(e))
		}
		lot, times := random.Perm(p.Cands), min(97, million/max(many, 1))
		q := profile.Twin(p)
		for i := range q.Rows {
			q.Rows[i].Many *= times
		}
		o, again := count(t, p, p.Cands, lot), count(t, q, p.Cands, lot)
		if !slices.Equal(o.Elected, again.Elected) || !sameTies(o.Ties, again.Ties) {
			t.Errorf("%s, lot %v: %s, and %d times %s", show(p), lot, tell(o), times, tell(again))
		}
		for at, r := range o.Rounds {
			for c, cost := range r.Had {
				if new(big.Rat).Mul(ratOf(again.Rounds[at].Had[c]), big.NewRat(int64(times), 1)).Cmp(ratOf(cost)) != 0 {
					t.Errorf("%s, lot %v: %s, and %d times %s", show(p), lot, tell(o), times, tell(again))
				}
			}
		}
	}
}
