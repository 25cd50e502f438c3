package runoff_test

import (
	"math/rand"
	"slices"
	"testing"

	"suffrage/api"
	"suffrage/condorcet"
	"suffrage/pairs"
	"suffrage/profile"
	"suffrage/runoff"
)

// P15.3

// firstFor returns a lot in which a candidate comes first, and lastFor one in which it comes last.
func firstFor(random *rand.Rand, cands, c int) []int {
	return append([]int{c}, slices.DeleteFunc(random.Perm(cands), func(o int) bool { return o == c })...)
}

func lastFor(random *rand.Rand, cands, c int) []int { return reversed(firstFor(random, cands, c)) }

// add returns p with more ballots, or p if that is beyond the limits.
func add(p api.Profile, many int, marks ...int) api.Profile {
	if more, e := profile.Add(p, api.Ballot{Kind: 1, Marks: marks}, many); e == api.OK {
		return more
	}
	return p
}

// many returns the number of ballots of a valid profile.
func many(t *testing.T, p api.Profile) int {
	t.Helper()
	n, e := profile.Many(p)
	if e != api.OK {
		t.Fatal(show(p), int(e))
	}
	return n
}

// The favorite of more than half of all ballots is elected in the first round, whatever the lot.
func TestTheFavoriteOfMoreThanHalf(t *testing.T) {
	random := rand.New(rand.NewSource(421))
	favorites, bare := 0, 0
	for range 4000 {
		p := leaning(random)
		c := random.Intn(p.Cands)
		if random.Intn(2) == 0 { // with as many as are missing, or one more
			missing := many(t, p) - 2*bestOf(p, c)
			if missing >= 0 {
				p = add(p, missing+random.Intn(2)+1, append([]int{c}, others(p.Cands, c)[:random.Intn(p.Cands)]...)...)
			}
		}
		had := bestOf(p, c)
		if 2*had <= many(t, p) {
			continue
		}
		favorites++
		if 2*had <= many(t, p)+2 {
			bare++
		}
		for _, lot := range [][]int{firstFor(random, p.Cands, c), lastFor(random, p.Cands, c)} {
			o := run(t, p, lot)
			if !slices.Equal(o.Elected, []int{c}) || len(o.Rounds) != 1 || len(o.Ties) > 0 || number(o.Rounds[0].Had[c]) != had {
				t.Errorf("the count of %s, lot %v: %v; %d is first on %d", show(p), lot, o, c, had)
			}
		}
	}
	if favorites < 1000 || bare < 500 {
		t.Errorf("there are %d favorites, %d of them by one or two ballots", favorites, bare)
	}
}

// bestOf returns the number of ballots on which c is first.
func bestOf(p api.Profile, c int) int {
	n := 0
	for _, r := range p.Rows {
		if len(r.Marks) > 0 && r.Marks[0] == c {
			n += r.Many
		}
	}
	return n
}

// solid returns the number of ballots that rank every candidate of the set before all others.
func solid(p api.Profile, set []int) int {
	n := 0
	for _, r := range p.Rows {
		if len(r.Marks) >= len(set) && slices.Equal(slices.Sorted(slices.Values(r.Marks[:len(set)])), set) {
			n += r.Many
		}
	}
	return n
}

// sets returns all nonempty sets of so many candidates.
func sets(cands int) [][]int {
	var all [][]int
	for bits := 1; bits < 1<<cands; bits++ {
		all = append(all, slices.DeleteFunc(upTo(cands), func(c int) bool { return bits>>c&1 == 0 }))
	}
	return all
}

// divided returns a profile in which a bare majority ranks the candidates of a set first, in several orders, and the others have ballots of any other kind, mostly first for one who is not in the set.
func divided(random *rand.Rand) (p api.Profile, set []int) {
	cands := 2 + random.Intn(5)
	order := random.Perm(cands)
	size := 1 + random.Intn(cands-1)
	p, set = ranks(cands), slices.Sorted(slices.Values(order[:size]))
	for range 1 + random.Intn(10) {
		p = add(p, 1+random.Intn(20), randomMarks(random, cands, 1)...)
		p = add(p, 1+random.Intn(40), order[size:]...)
	}
	total, _ := profile.Many(p)
	for missing := total - 2*solid(p, set) + 1; missing > 0; missing = total - 2*solid(p, set) + 1 {
		n := min(missing, 1+random.Intn(15))
		marks := slices.Clone(set)
		random.Shuffle(size, func(i, j int) { marks[i], marks[j] = marks[j], marks[i] })
		for _, c := range random.Perm(cands)[:random.Intn(cands+1)] {
			if !slices.Contains(marks, c) {
				marks = append(marks, c)
			}
		}
		p = add(p, n, marks...)
		total += n
	}
	return p, set
}

// If more than half of all ballots rank every candidate of a set before all others, one of them is elected, whatever the lot.
func TestASolidMajority(t *testing.T) {
	random := rand.New(rand.NewSource(422))
	few, ahead, bare := 0, 0, 0
	for range 1500 {
		p, set := divided(random)
		total := many(t, p)
		if n := solid(p, set); n <= total/2 {
			t.Fatalf("%s: %d of %d rank %v first", show(p), n, total, set)
		} else if n == total/2+1 {
			bare++
		}
		outside := slices.DeleteFunc(upTo(p.Cands), func(c int) bool { return slices.Contains(set, c) })
		for _, lot := range [][]int{slices.Concat(set, outside), slices.Concat(outside, set), random.Perm(p.Cands)} {
			o := run(t, p, lot)
			if !slices.Contains(set, o.Elected[0]) {
				t.Errorf("the count of %s, lot %v: %v; more than half rank %v first", show(p), lot, o, set)
			}
		}
		if len(set) > 1 {
			few++
			first := slices.MaxFunc(upTo(p.Cands), func(x, y int) int { return bestOf(p, x) - bestOf(p, y) })
			if !slices.Contains(set, first) {
				ahead++ // one outside has the most ballots at first
			}
		}
	}
	if few < 500 || ahead < 200 || bare < 1000 {
		t.Errorf("%d sets have several candidates; %d times another one is ahead; %d majorities are bare", few, ahead, bare)
	}
	found := 0
	for range 1000 {
		p := leaning(random)
		o := run(t, p, random.Perm(p.Cands))
		for _, set := range sets(p.Cands) {
			if 2*solid(p, set) > many(t, p) {
				found++
				if !slices.Contains(set, o.Elected[0]) {
					t.Errorf("the count of %s: %v; more than half rank %v first", show(p), o, set)
				}
			}
		}
	}
	if found < 500 {
		t.Errorf("%d sets have a majority", found)
	}
}

// Just half of all ballots is not enough.
func TestHalfIsNoSolidMajority(t *testing.T) {
	p := ranks(3, row(2, 0, 1), row(2, 1, 0), row(4, 2))
	check(t, p, []int{2, 1, 0}, outcome([]api.Tie{tie(0, 0, 1), tie(1, 1, 2)}, out(0, 0, 2, 2, 4), out(1, 0, 0, 4, 4), won(2, 4, 0, 0, 4)))
	check(t, ranks(3, row(2, 0, 1), row(3, 1, 0), row(4, 2)), []int{2, 1, 0}, untied(out(0, 0, 2, 3, 4), won(1, 0, 0, 5, 4)))
}

// The Condorcet loser is not elected if there are at least two candidates, even if it comes first in the lot.
func TestTheCondorcetLoserLoses(t *testing.T) {
	random := rand.New(rand.NewSource(423))
	losers, ahead := 0, 0
	for range 6000 {
		p := leaning(random)
		if random.Intn(2) == 0 && p.Cands > 2 { // one who is first on many ballots and last on more
			c := random.Intn(p.Cands)
			p = add(p, 1+many(t, p)/2, c)
			for range 3 {
				p = add(p, 1+many(t, p)/4, lastFor(random, p.Cands, c)...)
			}
		}
		m, e := pairs.Of(p)
		loser, ok := condorcet.Loser(m, p.Cands)
		if e != api.OK || !ok || p.Cands == 1 {
			continue
		}
		losers++
		if !slices.ContainsFunc(others(p.Cands, loser), func(c int) bool { return bestOf(p, c) > bestOf(p, loser) }) {
			ahead++
		}
		for _, lot := range [][]int{firstFor(random, p.Cands, loser), lastFor(random, p.Cands, loser)} {
			if o := run(t, p, lot); o.Elected[0] == loser {
				t.Errorf("the count of %s, lot %v: %v; the loser is %d", show(p), lot, o, loser)
			}
		}
	}
	if losers < 2000 || ahead < 200 {
		t.Errorf("there are %d losers, and %d of them have the most ballots at first", losers, ahead)
	}
	if o := run(t, ranks(1), []int{0}); !slices.Equal(o.Elected, []int{0}) { // alone, it is elected
		t.Errorf("of one candidate: %v", o)
	}
}

// In every round Had and Lost add up to the number of ballots; and whoever is no longer left has none.
func TestEachRoundHasAllBallots(t *testing.T) {
	random := rand.New(rand.NewSource(424))
	rounds := 0
	for i := range 4000 {
		p := leaning(random)
		if i%2 == 0 {
			p = randomProfile(random, 1+random.Intn(10), 1)
		}
		total := many(t, p)
		var gone []int
		for _, r := range run(t, p, random.Perm(p.Cands)).Rounds {
			rounds++
			sum := number(r.Lost)
			for c, x := range r.Had {
				n := number(x)
				sum += n
				if n < 0 || slices.Contains(gone, c) && n != 0 {
					t.Errorf("the round %v of %s, after %v", r, show(p), gone)
				}
			}
			if sum != total || number(r.Lost) < 0 {
				t.Errorf("the round %v of %s has %d ballots; want %d", r, show(p), sum, total)
			}
			gone = append(gone, r.Out...)
		}
	}
	if rounds < 10000 {
		t.Errorf("%d rounds", rounds)
	}
}

// renamedLot returns the lot with candidate c called perm[c].
func renamedLot(lot, perm []int) []int {
	var l []int
	for _, c := range lot {
		l = append(l, perm[c])
	}
	return l
}

func TestRenamingRenamesTheOutcome(t *testing.T) {
	random := rand.New(rand.NewSource(425))
	ties := 0
	for i := range 4000 {
		p := leaning(random)
		if i%2 == 0 {
			p = evened(random, p)
		}
		perm, lot := random.Perm(p.Cands), random.Perm(p.Cands)
		renamed, e := profile.Rename(p, perm)
		if e != api.OK {
			t.Fatal(show(p), int(e))
		}
		o, again := run(t, p, lot), run(t, renamed, renamedLot(lot, perm))
		if want := modelRename(o, perm); !same(again, want) {
			t.Errorf("the count of %s, lot %v, renamed by %v: %v; want %v", show(p), lot, perm, again, want)
		}
		ties += len(o.Ties)
	}
	if ties < 3000 {
		t.Errorf("%d ties are renamed", ties)
	}
}

func TestRenamingRenamesFirsts(t *testing.T) {
	random := rand.New(rand.NewSource(426))
	for range 3000 {
		p := leaning(random)
		perm := random.Perm(p.Cands)
		left := randomLeft(random, p.Cands)
		renamed, e := profile.Rename(p, perm)
		if e != api.OK {
			t.Fatal(show(p), int(e))
		}
		leftToo := make([]bool, p.Cands)
		for c := range leftToo {
			leftToo[perm[c]] = modelIsLeft(left, c)
		}
		had, lost, _ := runoff.Firsts(p, left)
		again, lostToo, e := runoff.Firsts(renamed, leftToo)
		for c, n := range had {
			if e != api.OK || lost != lostToo || len(again) != p.Cands || again[perm[c]] != n {
				t.Fatalf("of %s, left %v: %v, %d; renamed by %v: %v, %d", show(p), left, had, lost, perm, again, lostToo)
			}
		}
	}
}

// Without a tie the lot decides nothing.
func TestTheLotDecidesOnlyTies(t *testing.T) {
	random := rand.New(rand.NewSource(427))
	untied := 0
	for range 3000 {
		p := leaning(random)
		o := run(t, p, random.Perm(p.Cands))
		if len(o.Ties) > 0 {
			continue
		}
		untied++
		if again := run(t, p, random.Perm(p.Cands)); !same(o, again) {
			t.Errorf("the count of %s: %v; by another lot %v", show(p), o, again)
		}
	}
	if untied < 500 {
		t.Errorf("%d outcomes without a tie", untied)
	}
}

// Twice the ballots: the same candidates and ties, with numbers twice as great.
func TestTwiceTheBallots(t *testing.T) {
	random := rand.New(rand.NewSource(428))
	for range 1500 {
		p := leaning(random)
		twice, e := profile.Sum(p, p)
		if e != api.OK {
			continue
		}
		lot := random.Perm(p.Cands)
		want := run(t, p, lot)
		for i := range want.Rounds {
			r := &want.Rounds[i]
			r.Lost = modelNumber(2 * number(r.Lost))
			for c, x := range r.Had {
				r.Had[c] = modelNumber(2 * number(x))
			}
		}
		if o := run(t, twice, lot); !same(o, want) {
			t.Errorf("twice the ballots of %s, lot %v: %v; want %v", show(p), lot, o, want)
		}
	}
}

// Of a count, the rounds from the second on are those of the ballots that are left then, but for those that are exhausted, which are blank there.
func TestTheRestOfACount(t *testing.T) {
	random := rand.New(rand.NewSource(429))
	rests := 0
	for range 3000 {
		p := leaning(random)
		lot := random.Perm(p.Cands)
		o := run(t, p, lot)
		if len(o.Rounds) == 1 {
			continue
		}
		gone := o.Rounds[0].Out[0]
		left := slices.Repeat([]bool{true}, p.Cands)
		left[gone] = false
		kept, e := profile.Keep(p, left)
		if e != api.OK {
			t.Fatal(show(p), int(e))
		}
		// There, the eliminated one has no ballots, and by this lot it is out before any other that has none, unless somebody has a majority at once.
		rest := run(t, kept, append(slices.DeleteFunc(slices.Clone(lot), func(c int) bool { return c == gone }), gone))
		if len(rest.Rounds[0].Out) > 0 {
			if !slices.Equal(rest.Rounds[0].Out, []int{gone}) {
				t.Errorf("the rest of %s, lot %v, without %d: %v", show(p), lot, gone, rest)
			}
			rest.Rounds = rest.Rounds[1:]
		}
		if !same(api.Outcome{Elected: rest.Elected, Rounds: rest.Rounds}, api.Outcome{Elected: o.Elected, Rounds: o.Rounds[1:]}) {
			t.Errorf("the count of %s, lot %v: %v; of the rest %v", show(p), lot, o, rest)
		}
		rests++
	}
	if rests < 800 {
		t.Errorf("%d counts have a rest", rests)
	}
}
