package meek_test

import (
	"fmt"
	"math/big"
	"math/rand"
	"slices"
	"testing"

	"suffrage/api"
	"suffrage/meek"
	"suffrage/profile"
)

// P19.3

// Exactly as many candidates are elected as there are seats, each of them once.
func TestP19_3AsManyAsThereAreSeats(t *testing.T) {
	random := rand.New(rand.NewSource(1931))
	for i := range 3000 {
		p := anyProfile(random)
		if i%10 == 0 {
			p = ranks(p.Cands, row(1+random.Intn(million), random.Perm(p.Cands)[:random.Intn(p.Cands+1)]...))
		}
		for seats := 1; seats <= p.Cands; seats++ {
			checkSeats(t, p, seats, random.Perm(p.Cands))
		}
	}
	for range 300 {
		p, seats := slowly(random)
		checkSeats(t, p, seats, random.Perm(p.Cands))
	}
}

func checkSeats(t *testing.T, p api.Profile, seats int, lot []int) {
	t.Helper()
	o := run(t, p, seats, lot)
	winners := slices.Compact(slices.Sorted(slices.Values(o.Elected)))
	if len(o.Elected) != seats || len(winners) != seats || winners[0] < 0 || winners[seats-1] >= p.Cands {
		t.Errorf("the count of %s, %d seats: %s", show(p), seats, tell(o))
	}
}

// In every round, what the candidates have and what is lost are all votes, and none of it is negative.
func TestP19_3HadAndLostAddUp(t *testing.T) {
	random := rand.New(rand.NewSource(1932))
	profiles := []api.Profile{theExample(), ranks(10), ranks(3, row(million)), ranks(10, row(million, upTo(10)...)), ranks(10, row(999983, upTo(10)...)), fullProfile(1), unevenProfile(), slow(831), slow(200000)}
	for range 2500 {
		profiles = append(profiles, anyProfile(random))
	}
	lost := 0
	for _, p := range profiles {
		votes := big.NewRat(int64(modelVotes(p)), 1)
		for seats := 1; seats <= p.Cands; seats++ {
			o := run(t, p, seats, random.Perm(p.Cands))
			for _, r := range o.Rounds {
				sum := ratOf(r.Lost)
				for _, n := range r.Had {
					sum.Add(sum, ratOf(n))
				}
				if sum.Cmp(votes) != 0 || r.Lost.Neg || slices.ContainsFunc(r.Had, func(n api.Ratio) bool { return n.Neg }) {
					t.Fatalf("the count of %s, %d seats: %s", show(p), seats, tell(o))
				}
				if len(r.Lost.Num) > 0 {
					lost++
				}
			}
		}
	}
	if lost < 1000 {
		t.Errorf("in %d rounds something is lost", lost)
	}
}

// solid returns the number of ballots that rank every candidate of the set before all others.
func solid(p api.Profile, set []int) int {
	n := 0
	for _, r := range p.Rows {
		if len(r.Marks) >= len(set) && slices.Equal(slices.Sorted(slices.Values(r.Marks[:len(set)])), set) {
			n += r.Many
		}
	}
	return n
}

// sets returns all nonempty sets of so many candidates.
func sets(cands int) [][]int {
	var all [][]int
	for bits := 1; bits < 1<<cands; bits++ {
		all = append(all, slices.DeleteFunc(upTo(cands), func(c int) bool { return bits>>c&1 == 0 }))
	}
	return all
}

// coalition is a profile in which the ballots of a solid coalition for a set are just as many as so many quotas.
type coalition struct {
	p             api.Profile
	seats, quotas int
	set           []int
}

// oneOf returns the candidates of a set in any order, and some or all of the others behind them.
func oneOf(random *rand.Rand, set, rest []int) []int {
	var marks []int
	for _, i := range random.Perm(len(set)) {
		marks = append(marks, set[i])
	}
	for _, i := range random.Perm(len(rest))[:random.Intn(len(rest)+1)] {
		marks = append(marks, rest[i])
	}
	return marks
}

// randomCoalition returns a coalition; the other ballots are mostly for those outside of the set, and as even among them as they can be.
func randomCoalition(random *rand.Rand) coalition {
	cands := 2 + random.Intn(9)
	order := random.Perm(cands)
	size := 1 + random.Intn(cands-1)
	set, rest := slices.Sorted(slices.Values(order[:size])), order[size:]
	seats := 1 + random.Intn(cands-1)
	quotas := 1 + random.Intn(seats)
	quota := 2 + random.Intn([]int{4, 30, 3000}[random.Intn(3)])
	votes := (quota-1)*(seats+1) + random.Intn(seats+1)
	for quotas*quota > votes {
		quotas--
	}
	if quotas < 1 { // there are not as many votes
		return randomCoalition(random)
	}
	p := ranks(cands)
	for left := quotas * quota; left > 0; {
		n := min(left, 1+random.Intn(1+quota))
		if len(p.Rows) > 25 {
			n = left
		}
		p, left = add(p, n, oneOf(random, set, rest)...), left-n
	}
	for left := votes - quotas*quota; left > 0; {
		n := min(left, 1+(votes-quotas*quota)/(1+random.Intn(2*len(rest)+1)))
		marks := oneOf(random, rest[:1+random.Intn(len(rest))], nil)
		if random.Intn(4) == 0 { // first for those in the set whom few have first
			marks = append([]int{rest[0]}, oneOf(random, set, nil)...)
		}
		p, left = add(p, n, marks...), left-n
	}
	return coalition{p, seats, quotas, set}
}

// isClose reports whether no elected candidate has more than a twentieth of a vote above the quota whenever one is eliminated.
func isClose(t *testing.T, p api.Profile, seats int, o api.Outcome) bool {
	t.Helper()
	var elected []int
	for _, r := range o.Rounds {
		quota, e := meek.Quota(modelVotes(p), billionthsOf(r.Lost), seats)
		if e != api.OK {
			t.Fatalf("the count of %s: %s has no quota", show(p), tell(o))
		}
		for _, c := range elected {
			if len(r.Out) > 0 && billionthsOf(r.Had[c]) > quota+unit/20 {
				return false
			}
		}
		elected = append(elected, r.Elected...)
	}
	return true
}

// within returns how many of the list are in the set.
func within(l, set []int) int {
	n := 0
	for _, c := range l {
		if slices.Contains(set, c) {
			n++
		}
	}
	return n
}

// Of a set whose candidates at least k Droop quotas rank before all others, at least k are elected, or all of them, whatever the lot.
func TestP19_3SolidCoalitions(t *testing.T) {
	random := rand.New(rand.NewSource(1933))
	s := seen{}
	for range 8000 {
		x := randomCoalition(random)
		quota := modelVotes(x.p)/(x.seats+1) + 1
		if n := solid(x.p, x.set); n < x.quotas*quota {
			t.Fatalf("%s: %d rank %v first; the quota is %d", show(x.p), n, x.set, quota)
		} else if n == x.quotas*quota {
			s["just their quotas"]++
		}
		s[fmt.Sprint("sets of ", len(x.set))]++
		outside := slices.DeleteFunc(upTo(x.p.Cands), func(c int) bool { return slices.Contains(x.set, c) })
		for _, lot := range [][]int{slices.Concat(x.set, outside), slices.Concat(outside, x.set), random.Perm(x.p.Cands)} {
			o := run(t, x.p, x.seats, lot)
			if !isClose(t, x.p, x.seats, o) {
				continue
			}
			s["counts that are close"]++
			have := within(o.Elected, x.set)
			if have < min(x.quotas, len(x.set)) {
				t.Errorf("the count of %s, %d seats, lot %v: %s; %d quotas rank %v first", show(x.p), x.seats, lot, tell(o), x.quotas, x.set)
			}
			if x.quotas > 1 && len(x.set) > x.quotas && have == x.quotas {
				s["several elected, and no more"]++
			}
		}
	}
	s.check(t, 5000, "just their quotas", "counts that are close")
	s.check(t, 1000, "several elected, and no more")
	for size := 1; size <= 9; size++ {
		s.check(t, 100, fmt.Sprint("sets of ", size))
	}
}

// The same for every set of every profile, with as many quotas as it has; also where the counts take many turns.
func TestP19_3AllCoalitions(t *testing.T) {
	random := rand.New(rand.NewSource(1934))
	s := seen{}
	for i := range 4000 {
		p := anyProfile(random)
		seats := 1 + random.Intn(p.Cands)
		if i%10 == 0 {
			p, seats = slowly(random)
		}
		if p.Cands > 7 {
			continue
		}
		o := run(t, p, seats, random.Perm(p.Cands))
		if !isClose(t, p, seats, o) {
			s["not close"]++
			continue
		}
		quota := modelVotes(p)/(seats+1) + 1
		for _, set := range sets(p.Cands) {
			quotas := solid(p, set) / quota
			if quotas == 0 {
				continue
			}
			s[fmt.Sprint("with ", min(quotas, len(set)))]++
			if within(o.Elected, set) < min(quotas, len(set)) {
				t.Errorf("the count of %s, %d seats: %s; %d quotas rank %v first", show(p), seats, tell(o), quotas, set)
			}
		}
	}
	s.check(t, 100, "with 1", "with 2", "with 3", "with 4")
	s.check(t, 10, "not close")
}

// With a little less than the quotas, a coalition may elect fewer.
func TestP19_3LessThanTheQuotas(t *testing.T) {
	lot := []int{2, 3, 0, 1}
	p := sorted(4, row(4, 0, 1), row(3, 1, 0), row(4, 2), row(4, 3)) // Droop quota 4 for three seats; 7 for 0 and 1
	check(t, p, 3, lot, outcome(ties(tie(2, 0, 2, 3), tie(3, 0, 3)), won("4 3 4 4 | 0", 2), won("4 3 4 4 | 0", 3), won("4 3 4 4 | 0", 0)))
	p = sorted(4, row(4, 0, 1), row(4, 1, 0), row(3, 2), row(4, 3)) // and 8
	check(t, p, 3, lot, outcome(ties(tie(3, 0, 1, 3), tie(0, 0, 1)), won("4 4 3 4 | 0", 3), won("4 4 3 4 | 0", 0), won("4 4 3 4 | 0", 1)))
}

// Who is first on at least a Droop quota of ballots is elected, even if it comes last in the lot, where one must be chosen, or first, where one must be eliminated.
func TestP19_3FirstOnAQuota(t *testing.T) {
	random := rand.New(rand.NewSource(1935))
	bare, more := 0, 0
	for range 4000 {
		p := anyProfile(random)
		seats := 1 + random.Intn(p.Cands)
		c := random.Intn(p.Cands)
		for range 20 { // until it has as many as the quota, or a few more
			quota := modelVotes(p)/(seats+1) + 1
			if missing := quota - firsts(p, c); missing > 0 {
				p = add(p, missing, append([]int{c}, others(random.Perm(p.Cands), c)[:random.Intn(p.Cands)]...)...)
			}
		}
		quota := modelVotes(p)/(seats+1) + 1
		rest := others(upTo(p.Cands), c)
		for _, lot := range [][]int{append([]int{c}, rest...), append(slices.Clone(rest), c)} {
			o := run(t, p, seats, lot)
			for x := range p.Cands {
				switch n := firsts(p, x); {
				case n < quota:
					continue
				case n == quota:
					bare++
				default:
					more++
				}
				if !slices.Contains(o.Elected, x) {
					t.Errorf("the count of %s, %d seats, lot %v: %s; %d is first on %d, and the quota is %d", show(p), seats, lot, tell(o), x, firsts(p, x), quota)
				}
			}
		}
	}
	if bare < 1000 || more < 1000 {
		t.Errorf("%d candidates are first on a quota, and %d on more", bare, more)
	}
}

// firsts returns the number of ballots on which c is first.
func firsts(p api.Profile, c int) int {
	n := 0
	for _, r := range p.Rows {
		if len(r.Marks) > 0 && r.Marks[0] == c {
			n += r.Many
		}
	}
	return n
}

func TestP19_3RenamingRenamesTheOutcome(t *testing.T) {
	random := rand.New(rand.NewSource(1936))
	decisions := 0
	for i := range 5000 {
		p := anyProfile(random)
		if i%2 == 0 {
			p = evened(random, p)
		}
		seats := 1 + random.Intn(p.Cands)
		if i%50 == 0 {
			p, seats = slowly(random)
		}
		perm, lot := random.Perm(p.Cands), random.Perm(p.Cands)
		renamed, e := profile.Rename(p, perm)
		if e != api.OK {
			t.Fatal(show(p), int(e))
		}
		o, again := run(t, p, seats, lot), run(t, renamed, seats, called(lot, perm))
		if want := modelRename(o, perm); !same(again, want) {
			t.Errorf("the count of %s, %d seats, lot %v, renamed by %v: %s; want %s", show(p), seats, lot, perm, tell(again), tell(want))
		}
		decisions += len(o.Ties)
	}
	if decisions < 3000 {
		t.Errorf("%d ties are renamed", decisions)
	}
}

// The parts of a renamed ballot are those of the ballot, renamed.
func TestP19_3RenamingRenamesTheParts(t *testing.T) {
	random := rand.New(rand.NewSource(1937))
	for range 3000 {
		cands := 1 + random.Intn(10)
		marks, perm := random.Perm(cands)[:random.Intn(cands+1)], random.Perm(cands)
		keeps, renamed, want := make([]int, cands), make([]int, cands), make([]int, cands)
		for c := range keeps {
			keeps[c] = random.Intn(unit + 1)
			renamed[perm[c]] = keeps[c]
		}
		parts, rest, e := meek.Parts(marks, keeps)
		for c, part := range parts {
			want[perm[c]] = part
		}
		again, left, e2 := meek.Parts(called(marks, perm), renamed)
		if !slices.Equal(again, want) || left != rest || e != api.OK || e2 != api.OK {
			t.Errorf("Parts(%v, %v), renamed by %v: %v, %d; want %v, %d", marks, keeps, perm, again, left, want, rest)
		}
	}
}
