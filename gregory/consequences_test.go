package gregory_test

import (
	"math/big"
	"math/rand"
	"slices"
	"testing"

	"suffrage/api"
	"suffrage/gregory"
	"suffrage/profile"
)

// P18.3

// Exactly as many candidates are elected as there are seats, each of them once.
func TestP18_3AsManyAsThereAreSeats(t *testing.T) {
	random := rand.New(rand.NewSource(1831))
	for i := range 5000 {
		p := anyProfile(random)
		if i%10 == 0 {
			p = ranks(p.Cands, row(1+random.Intn(million), random.Perm(p.Cands)[:random.Intn(p.Cands+1)]...))
		}
		for seats := 1; seats <= p.Cands; seats++ {
			o := run(t, p, seats, random.Perm(p.Cands))
			winners := slices.Compact(slices.Sorted(slices.Values(o.Elected)))
			if len(o.Elected) != seats || len(winners) != seats || winners[0] < 0 || winners[seats-1] >= p.Cands {
				t.Errorf("the count of %s, %d seats: %s", show(p), seats, tell(o))
			}
		}
	}
}

// complete returns a profile whose ballots with marks rank all candidates, with many ballots that are close to one ranking.
func complete(random *rand.Rand, cands int) api.Profile {
	p := ranks(cands)
	order := random.Perm(cands)
	rows := 1 + random.Intn(30)
	if random.Intn(3) == 0 {
		p = add(p, 1+random.Intn(1000))
	}
	for range rows {
		marks := slices.Clone(order)
		for range random.Intn(4) {
			at, other := random.Intn(cands), random.Intn(cands)
			marks[at], marks[other] = marks[other], marks[at]
		}
		p = add(p, 1+random.Intn(990000/rows), marks...)
	}
	return p
}

// If every ballot with marks ranks all candidates, less than a hundredth of a vote is lost in each round.
func TestP18_3LittleIsLost(t *testing.T) {
	random := rand.New(rand.NewSource(1832))
	hundredth := big.NewRat(1, 100)
	most := new(big.Rat)
	profiles := []api.Profile{ranks(10, row(million, upTo(10)...)), ranks(10, row(999983, upTo(10)...)), fullProfile(1), unevenProfile()}
	for i := range profiles { // all marks
		for j, r := range profiles[i].Rows {
			profiles[i].Rows[j].Marks = append(r.Marks, slices.DeleteFunc(upTo(10), func(c int) bool { return slices.Contains(r.Marks, c) })...)
		}
		slices.SortFunc(profiles[i].Rows, func(r, s api.Row) int { return slices.Compare(r.Marks, s.Marks) })
		profiles[i].Rows = slices.CompactFunc(profiles[i].Rows, func(r, s api.Row) bool { return slices.Equal(r.Marks, s.Marks) })
	}
	for range 3000 {
		profiles = append(profiles, complete(random, 1+random.Intn(10)))
	}
	for _, p := range profiles {
		for seats := 1; seats <= p.Cands; seats++ {
			for _, r := range run(t, p, seats, random.Perm(p.Cands)).Rounds {
				lost := ratOf(r.Lost)
				if r.Lost.Neg || lost.Cmp(hundredth) >= 0 {
					t.Fatalf("the count of %s, %d seats: %s are lost", show(p), seats, lost)
				}
				if lost.Cmp(most) > 0 {
					most = lost
				}
			}
		}
	}
	if most.Cmp(big.NewRat(1, 1000)) < 0 {
		t.Errorf("the most that is lost are %s votes", most.FloatString(9))
	}
}

// solid returns the number of ballots that rank every candidate of the set before all others.
func solid(p api.Profile, set []int) int {
	n := 0
	for _, r := range p.Rows {
		if len(r.Marks) >= len(set) && slices.Equal(slices.Sorted(slices.Values(r.Marks[:len(set)])), set) {
			n += r.Many
		}
	}
	return n
}

// sets returns all nonempty sets of so many candidates.
func sets(cands int) [][]int {
	var all [][]int
	for bits := 1; bits < 1<<cands; bits++ {
		all = append(all, slices.DeleteFunc(upTo(cands), func(c int) bool { return bits>>c&1 == 0 }))
	}
	return all
}

// coalition is a profile in which the ballots of a solid coalition for a set are just as many as so many quotas.
type coalition struct {
	p             api.Profile
	seats, quotas int
	set           []int
}

// oneOf returns the candidates of a set in any order, and some or all of the others behind them.
func oneOf(random *rand.Rand, set, rest []int) []int {
	var marks []int
	for _, i := range random.Perm(len(set)) {
		marks = append(marks, set[i])
	}
	for _, i := range random.Perm(len(rest))[:random.Intn(len(rest)+1)] {
		marks = append(marks, rest[i])
	}
	return marks
}

// randomCoalition returns a coalition; the other ballots are mostly for those outside of the set, and as even among them as they can be.
func randomCoalition(random *rand.Rand) coalition {
	cands := 2 + random.Intn(9)
	order := random.Perm(cands)
	size := 1 + random.Intn(cands-1)
	set, rest := slices.Sorted(slices.Values(order[:size])), order[size:]
	seats := 1 + random.Intn(cands-1)
	quotas := 1 + random.Intn(seats)
	quota := 2 + random.Intn([]int{4, 30, 3000}[random.Intn(3)])
	votes := (quota-1)*(seats+1) + random.Intn(seats+1)
	for quotas*quota > votes {
		quotas--
	}
	if quotas < 1 { // there are not as many votes
		return randomCoalition(random)
	}
	p := ranks(cands)
	for left := quotas * quota; left > 0; {
		n := min(left, 1+random.Intn(1+quota))
		if len(p.Rows) > 25 {
			n = left
		}
		p, left = add(p, n, oneOf(random, set, rest)...), left-n
	}
	for left := votes - quotas*quota; left > 0; {
		n := min(left, 1+(votes-quotas*quota)/(1+random.Intn(2*len(rest)+1)))
		marks := oneOf(random, rest[:1+random.Intn(len(rest))], nil)
		if random.Intn(4) == 0 { // first for those in the set whom few have first
			marks = append([]int{rest[0]}, oneOf(random, set, nil)...)
		}
		p, left = add(p, n, marks...), left-n
	}
	return coalition{p, seats, quotas, set}
}

// Of a set whose candidates at least k quotas rank before all others, at least k are elected, or all of them, whatever the lot.
func TestP18_3SolidCoalitions(t *testing.T) {
	random := rand.New(rand.NewSource(1833))
	bare, sizes, several, all := 0, map[int]int{}, 0, 0
	for range 8000 {
		x := randomCoalition(random)
		quota, e := gregory.Quota(x.p, x.seats)
		if n := solid(x.p, x.set); e != api.OK || n < x.quotas*quota {
			t.Fatalf("%s: %d rank %v first; the quota is %d", show(x.p), n, x.set, quota)
		} else if n == x.quotas*quota {
			bare++
		}
		sizes[len(x.set)]++
		outside := slices.DeleteFunc(upTo(x.p.Cands), func(c int) bool { return slices.Contains(x.set, c) })
		for _, lot := range [][]int{slices.Concat(x.set, outside), slices.Concat(outside, x.set), random.Perm(x.p.Cands)} {
			o := run(t, x.p, x.seats, lot)
			have := len(o.Elected) - len(slices.DeleteFunc(slices.Clone(o.Elected), func(c int) bool { return slices.Contains(x.set, c) }))
			if have < min(x.quotas, len(x.set)) {
				t.Errorf("the count of %s, %d seats, lot %v: %s; %d quotas rank %v first", show(x.p), x.seats, lot, tell(o), x.quotas, x.set)
			}
			if x.quotas > 1 && len(x.set) > x.quotas {
				several++
				if have == x.quotas {
					all++
				}
			}
		}
	}
	if bare < 6000 || several < 3000 || all < 1000 {
		t.Errorf("%d coalitions have just their quotas; %d times there are several, and %d times they elect just as many", bare, several, all)
	}
	for size := 1; size <= 9; size++ {
		if sizes[size] < 100 {
			t.Errorf("%d sets have %d candidates", sizes[size], size)
		}
	}
}

// The same for every set of every profile, with as many quotas as it has.
func TestP18_3AllCoalitions(t *testing.T) {
	random := rand.New(rand.NewSource(1834))
	found := map[int]int{}
	for range 3000 {
		p := anyProfile(random)
		if p.Cands > 7 {
			continue
		}
		seats := 1 + random.Intn(p.Cands)
		quota, _ := gregory.Quota(p, seats)
		o := run(t, p, seats, random.Perm(p.Cands))
		for _, set := range sets(p.Cands) {
			quotas := solid(p, set) / quota
			if quotas == 0 {
				continue
			}
			found[min(quotas, len(set))]++
			have := len(o.Elected) - len(slices.DeleteFunc(slices.Clone(o.Elected), func(c int) bool { return slices.Contains(set, c) }))
			if have < min(quotas, len(set)) {
				t.Errorf("the count of %s, %d seats: %s; %d quotas rank %v first", show(p), seats, tell(o), quotas, set)
			}
		}
	}
	for quotas := 1; quotas <= 4; quotas++ {
		if found[quotas] < 100 {
			t.Errorf("%d sets have %d quotas and as many candidates", found[quotas], quotas)
		}
	}
}

// With one ballot less than the quotas, a coalition may elect fewer.
func TestP18_3LessThanTheQuotas(t *testing.T) {
	lot := []int{2, 3, 0, 1}
	p := sorted(4, row(4, 0, 1), row(3, 1, 0), row(4, 2), row(4, 3)) // quota 4 for three seats; 7 for 0 and 1
	check(t, p, 3, lot, outcome(ties(tie(2, 0, 2, 3), tie(3, 0, 3)), won("4 3 4 4 | 0", 2), won("4 3 4 4 | 0", 3), won("4 3 4 4 | 0", 0)))
	p = sorted(4, row(4, 0, 1), row(4, 1, 0), row(3, 2), row(4, 3)) // and 8
	check(t, p, 3, lot, outcome(ties(tie(3, 0, 1, 3), tie(0, 0, 1)), won("4 4 3 4 | 0", 3), won("4 4 3 4 | 0", 0), won("4 4 3 4 | 0", 1)))
}

// Who is first on at least a quota of ballots is elected, even if it comes last in the lot, where one must be chosen, or first, where one must be eliminated.
func TestP18_3FirstOnAQuota(t *testing.T) {
	random := rand.New(rand.NewSource(1835))
	bare, more := 0, 0
	for range 6000 {
		p := anyProfile(random)
		seats := 1 + random.Intn(p.Cands)
		c := random.Intn(p.Cands)
		for range 20 { // until it has as many as the quota, or a few more
			quota, _ := gregory.Quota(p, seats)
			if missing := quota - firsts(p, c); missing > 0 {
				p = add(p, missing, append([]int{c}, others(random.Perm(p.Cands), c)[:random.Intn(p.Cands)]...)...)
			}
		}
		quota, _ := gregory.Quota(p, seats)
		rest := others(upTo(p.Cands), c)
		for _, lot := range [][]int{append([]int{c}, rest...), append(slices.Clone(rest), c)} {
			o := run(t, p, seats, lot)
			for x := range p.Cands {
				switch n := firsts(p, x); {
				case n < quota:
					continue
				case n == quota:
					bare++
				default:
					more++
				}
				if !slices.Contains(o.Elected, x) {
					t.Errorf("the count of %s, %d seats, lot %v: %s; %d is first on %d, and the quota is %d", show(p), seats, lot, tell(o), x, firsts(p, x), quota)
				}
			}
		}
	}
	if bare < 1000 || more < 1000 {
		t.Errorf("%d candidates are first on a quota, and %d on more", bare, more)
	}
}

// firsts returns the number of ballots on which c is first.
func firsts(p api.Profile, c int) int {
	n := 0
	for _, r := range p.Rows {
		if len(r.Marks) > 0 && r.Marks[0] == c {
			n += r.Many
		}
	}
	return n
}

func TestP18_3RenamingRenamesTheOutcome(t *testing.T) {
	random := rand.New(rand.NewSource(1836))
	decisions := 0
	for i := range 5000 {
		p := anyProfile(random)
		if i%2 == 0 {
			p = evened(random, p)
		}
		seats := 1 + random.Intn(p.Cands)
		perm, lot := random.Perm(p.Cands), random.Perm(p.Cands)
		renamed, e := profile.Rename(p, perm)
		if e != api.OK {
			t.Fatal(show(p), int(e))
		}
		o, again := run(t, p, seats, lot), run(t, renamed, seats, called(lot, perm))
		if want := modelRename(o, perm); !same(again, want) {
			t.Errorf("the count of %s, %d seats, lot %v, renamed by %v: %s; want %s", show(p), seats, lot, perm, tell(again), tell(want))
		}
		quota, _ := gregory.Quota(p, seats)
		if other, e := gregory.Quota(renamed, seats); other != quota || e != api.OK {
			t.Errorf("the quota of %s, renamed by %v: %d, not %d", show(p), perm, other, quota)
		}
		decisions += len(o.Ties)
	}
	if decisions < 3000 {
		t.Errorf("%d ties are renamed", decisions)
	}
}
