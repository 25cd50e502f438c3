package single_test

import (
	"math/rand"
	"slices"
	"testing"

	"suffrage/api"
	"suffrage/pairs"
	"suffrage/profile"
	"suffrage/ratio"
)

// P11.5

// run returns the outcome of a call that is right.
func (m method) run(t *testing.T, p api.Profile, seats int, lot []int) api.Outcome {
	t.Helper()
	o, e := m.do(p, seats, lot)
	if e != api.OK || len(o.Rounds) != 1 || len(o.Rounds[0].Had) != p.Cands || len(o.Elected) != seats {
		t.Fatalf("%s of %s, %d seats, lot %v: %v, %d", m.name, show(p), seats, lot, o, int(e))
	}
	return o
}

// summed returns two profiles of the kind, and their sum.
func summed(t *testing.T, random *rand.Rand, kind uint8) (p, q, sum api.Profile) {
	t.Helper()
	for range 1000 {
		cands := 1 + random.Intn(10)
		p, q = randomProfile(random, cands, kind), randomProfile(random, cands, kind)
		sum, e := profile.Sum(p, q)
		if e == api.OK {
			return p, q, sum
		}
	}
	t.Fatal("no profiles have a sum")
	return p, q, sum
}

func TestPointsInASum(t *testing.T) {
	random := rand.New(rand.NewSource(151))
	for range 1500 {
		for _, m := range methods() {
			p, q, sum := summed(t, random, m.kind)
			lot := random.Perm(p.Cands)
			a, b, both := m.run(t, p, 1, lot).Rounds[0], m.run(t, q, 1, lot).Rounds[0], m.run(t, sum, 1, lot).Rounds[0]
			for c, n := range both.Had {
				if want, e := ratio.Add(a.Had[c], b.Had[c]); e != api.OK || !ratio.Same(n, want) {
					t.Errorf("%s of %s and %s: %v, %v and together %v", m.name, show(p), show(q), a.Had, b.Had, both.Had)
				}
			}
			if want, e := ratio.Add(a.Lost, b.Lost); e != api.OK || !ratio.Same(both.Lost, want) {
				t.Errorf("%s of %s and %s: %v, %v and together %v are lost", m.name, show(p), show(q), a.Lost, b.Lost, both.Lost)
			}
		}
	}
}

// E1: if two profiles elect the same candidate to a single seat without ties, so does their sum.
func TestTheWinnerOfBothWinsInTheSum(t *testing.T) {
	random := rand.New(rand.NewSource(152))
	elections := map[string]int{}
	for range 4000 {
		for _, m := range methods() {
			p, q, sum := summed(t, random, m.kind)
			a, b := m.run(t, p, 1, random.Perm(p.Cands)), m.run(t, q, 1, random.Perm(p.Cands))
			if len(a.Ties)+len(b.Ties) > 0 || a.Elected[0] != b.Elected[0] {
				continue
			}
			elections[m.name]++
			if o := m.run(t, sum, 1, random.Perm(p.Cands)); o.Elected[0] != a.Elected[0] || len(o.Ties) > 0 {
				t.Errorf("%s of %s and %s elect %d, and together %v", m.name, show(p), show(q), a.Elected[0], o)
			}
		}
	}
	for _, m := range methods() {
		if elections[m.name] < 300 {
			t.Errorf("%d winners of both by %s", elections[m.name], m.name)
		}
	}
}

func TestBordaPointsAreSumsOfRows(t *testing.T) {
	random := rand.New(rand.NewSource(153))
	for i := range 3000 {
		p := randomProfile(random, 1+random.Intn(10), api.KindRank)
		if i == 0 {
			p = fullProfile(api.KindRank)
		}
		matrix, e := pairs.Of(p)
		if e != api.OK {
			t.Fatal(show(p), int(e))
		}
		for c, n := range borda().run(t, p, 1, random.Perm(p.Cands)).Rounds[0].Had {
			sum := 0
			for _, entry := range matrix[c] {
				sum += entry
			}
			if !ratio.Same(n, ratio.Whole(sum)) {
				t.Errorf("Borda of %s gives %d %v points; want %d", show(p), c, n, sum)
			}
		}
	}
}

func TestRenamingRenamesTheOutcome(t *testing.T) {
	random := rand.New(rand.NewSource(154))
	ties := 0
	for range 2000 {
		for _, m := range methods() {
			p := evened(random, randomProfile(random, 1+random.Intn(10), m.kind))
			perm, lot := random.Perm(p.Cands), random.Perm(p.Cands)
			renamed, e := profile.Rename(p, perm)
			if e != api.OK {
				t.Fatal(show(p), int(e))
			}
			var renamedLot []int
			for _, c := range lot {
				renamedLot = append(renamedLot, perm[c])
			}
			seats := 1 + random.Intn(p.Cands)
			o, again := m.run(t, p, seats, lot), m.run(t, renamed, seats, renamedLot)
			if want := modelRename(o, perm); !same(again, want) {
				t.Errorf("%s of %s, %d seats, lot %v, renamed by %v: %v; want %v", m.name, show(p), seats, lot, perm, again, want)
			}
			ties += len(o.Ties)
		}
	}
	if ties < 3000 {
		t.Errorf("%d ties are renamed", ties)
	}
}

// A candidate that more than half of all ballots mark alone is elected first by plurality.
func TestPluralityElectsWhomMoreThanHalfMark(t *testing.T) {
	random := rand.New(rand.NewSource(155))
	for range 3000 {
		p := randomProfile(random, 1+random.Intn(10), api.KindMark)
		winner := random.Intn(p.Cands)
		alone, others := 0, 0
		for _, r := range p.Rows {
			if slices.Equal(r.Marks, []int{winner}) {
				alone += r.Many
			} else {
				others += r.Many
			}
		}
		if more := others + 1 - alone; more > 0 {
			var e api.Errno
			if p, e = profile.Add(p, api.Ballot{Kind: api.KindMark, Marks: []int{winner}}, more); e != api.OK {
				continue
			}
		}
		lot := slices.DeleteFunc(random.Perm(p.Cands), func(c int) bool { return c == winner })
		o := plurality().run(t, p, 1+random.Intn(p.Cands), append(lot, winner)) // which the lot does not help
		if o.Elected[0] != winner || len(o.Ties) > 0 && slices.Contains(o.Ties[0].Among, winner) {
			t.Errorf("Plurality of %s elects %v, with ties %v", show(p), o.Elected, o.Ties)
		}
	}
	// Of just half of all ballots, another candidate may have the other half, and the lot decides.
	plurality().check(t, of(2, 2, row(500000, 0), row(500000, 1)), 1, []int{1, 0}, outcome([]int{500000, 500000}, 0, []int{1}, tie(1, 0, 1)))
	plurality().check(t, of(2, 2, row(500000, 0), row(499999, 1)), 1, []int{1, 0}, outcome([]int{500000, 499999}, 0, []int{0}))
	plurality().check(t, of(2, 2, row(500000, 0), row(499999, 0, 1)), 1, []int{1, 0}, outcome([]int{500000, 0}, 499999, []int{0}))
}

// forAlone returns a ballot of the kind for one candidate alone.
func forAlone(random *rand.Rand, kind uint8, cands, c int) api.Ballot {
	if kind != api.KindScore {
		return api.Ballot{Kind: kind, Marks: []int{c}}
	}
	scores := make([]int, cands)
	scores[c] = 1 + random.Intn(10)
	return api.Ballot{Kind: kind, Marks: scores}
}

// A winner that gets one more ballot for it alone is still elected, and not later than it was.
func TestOneMoreBallotForAWinner(t *testing.T) {
	random := rand.New(rand.NewSource(156))
	added := 0
	for range 2000 {
		for _, m := range methods() {
			p := evened(random, randomProfile(random, 1+random.Intn(10), m.kind))
			seats, lot := 1+random.Intn(p.Cands), random.Perm(p.Cands)
			o := m.run(t, p, seats, lot)
			at := random.Intn(seats)
			more, e := profile.Add(p, forAlone(random, m.kind, p.Cands, o.Elected[at]), 1)
			if e != api.OK {
				continue
			}
			added++
			again := m.run(t, more, seats, lot)
			if place := slices.Index(again.Elected, o.Elected[at]); place < 0 || place > at {
				t.Errorf("%s of %s, %d seats, lot %v: %v, and with a ballot for %d more %v", m.name, show(p), seats, lot, o.Elected, o.Elected[at], again.Elected)
			}
		}
	}
	if added < 6000 {
		t.Errorf("%d ballots are added", added)
	}
}

// For more seats the same candidates come first, and the points do not hang on the seats or on the lot.
func TestMoreSeatsAddWinners(t *testing.T) {
	random := rand.New(rand.NewSource(157))
	for range 1000 {
		for _, m := range methods() {
			p := evened(random, randomProfile(random, 1+random.Intn(10), m.kind))
			lot := random.Perm(p.Cands)
			whole := m.run(t, p, p.Cands, lot)
			if !slices.Equal(slices.Sorted(slices.Values(whole.Elected)), upTo(p.Cands)) {
				t.Errorf("%s of %s elects %v", m.name, show(p), whole.Elected)
			}
			m.checkSeats(t, p, lot, whole)
			other := m.run(t, p, 1, random.Perm(p.Cands)).Rounds[0]
			if !slices.EqualFunc(other.Had, whole.Rounds[0].Had, sameNumber) || !sameNumber(other.Lost, whole.Rounds[0].Lost) {
				t.Errorf("%s of %s: points %v, or %v with another lot", m.name, show(p), whole.Rounds[0].Had, other.Had)
			}
		}
	}
}
