package coombs_test

import (
	"math/rand"
	"slices"
	"testing"

	"suffrage/api"
	"suffrage/coombs"
	"suffrage/profile"
	"suffrage/runoff"
)

// P16.3

// firstFor returns a lot in which a candidate comes first, and lastFor one in which it comes last.
func firstFor(random *rand.Rand, cands, c int) []int {
	return append([]int{c}, slices.DeleteFunc(random.Perm(cands), func(o int) bool { return o == c })...)
}

func lastFor(random *rand.Rand, cands, c int) []int { return reversed(firstFor(random, cands, c)) }

// add returns p with more ballots, or p if that is beyond the limits.
func add(p api.Profile, many int, marks ...int) api.Profile {
	if more, e := profile.Add(p, api.Ballot{Kind: 1, Marks: marks}, many); e == api.OK {
		return more
	}
	return p
}

// many returns the number of ballots of a valid profile.
func many(t *testing.T, p api.Profile) int {
	t.Helper()
	n, e := profile.Many(p)
	if e != api.OK {
		t.Fatal(show(p), int(e))
	}
	return n
}

// firstOn returns the number of ballots on which c is first, and lastOn of those that rank all candidates, with c as the last.
func firstOn(p api.Profile, c int) int {
	n := 0
	for _, r := range p.Rows {
		if len(r.Marks) > 0 && r.Marks[0] == c {
			n += r.Many
		}
	}
	return n
}

func lastOn(p api.Profile, c int) int {
	n := 0
	for _, r := range p.Rows {
		if len(r.Marks) == p.Cands && r.Marks[p.Cands-1] == c {
			n += r.Many
		}
	}
	return n
}

// The favorite of more than half of all ballots is elected in the first round, whatever the lot, and however many ballots are against it.
func TestTheFavoriteOfMoreThanHalf(t *testing.T) {
	random := rand.New(rand.NewSource(521))
	favorites, bare, disliked := 0, 0, 0
	for range 4000 {
		p := leaning(random)
		c := random.Intn(p.Cands)
		if random.Intn(2) == 0 { // with as many as are missing, or one more
			if missing := many(t, p) - 2*firstOn(p, c); missing >= 0 {
				p = add(p, missing+random.Intn(2)+1, append([]int{c}, others(p.Cands, c)[:random.Intn(p.Cands)]...)...)
			}
		}
		had := firstOn(p, c)
		if 2*had <= many(t, p) {
			continue
		}
		favorites++
		if 2*had <= many(t, p)+2 {
			bare++
		}
		if against := checkModel(t, p, slices.Repeat([]bool{true}, p.Cands)); p.Cands > 1 && against[c] == slices.Max(against) {
			disliked++
		}
		for _, lot := range [][]int{firstFor(random, p.Cands, c), lastFor(random, p.Cands, c)} {
			o := run(t, p, lot)
			if !slices.Equal(o.Elected, []int{c}) || len(o.Rounds) != 1 || len(o.Ties) > 0 || number(o.Rounds[0].Had[c]) != had {
				t.Errorf("the count of %s, lot %v: %v; %d is first on %d", show(p), lot, o, c, had)
			}
		}
	}
	if favorites < 1000 || bare < 500 || disliked < 10 {
		t.Errorf("there are %d favorites, %d of them by one or two ballots, and %d with the most against them", favorites, bare, disliked)
	}
}

// complete returns a profile in which every ballot ranks all candidates.
func complete(random *rand.Rand, cands int) api.Profile {
	p := ranks(cands)
	for range random.Intn(12) {
		p = add(p, 1+random.Intn(20), random.Perm(cands)...)
	}
	return p
}

// Each ballot is against at least one of the candidates that are left, if any is, and against nobody else; and against just one if it ranks all candidates.
func TestEachBallotIsAgainstSomebody(t *testing.T) {
	random := rand.New(rand.NewSource(522))
	several, full := 0, 0
	for i := range 5000 {
		cands := 1 + random.Intn(10)
		marks := randomMarks(random, cands, api.KindRank)
		if i%3 == 0 {
			marks = random.Perm(cands)
		}
		left := randomLeft(random, cands)
		isLeft := slices.Contains(left[:min(cands, len(left))], true)
		ballots := 1 + random.Intn(1000)
		against, e := coombs.Lasts(ranks(cands, row(ballots, marks...)), left)
		if e != api.OK || len(against) != cands {
			t.Fatalf("of %v, left %v: %v, %d", marks, left, against, int(e))
		}
		n := 0
		for c, k := range against {
			if k != 0 && (k != ballots || !modelIsLeft(left, c)) {
				t.Errorf("%d like %v, left %v: %v", ballots, marks, left, against)
			}
			if k != 0 {
				n++
			}
		}
		if isLeft != (n > 0) || len(marks) == cands && n > 1 {
			t.Errorf("%v, left %v: against %d", marks, left, n)
		}
		if n > 1 {
			several++
		}
		if len(marks) == cands && n == 1 {
			full++
		}
	}
	if several < 400 || full < 1000 {
		t.Errorf("%d are against several, and %d that rank all are against one", several, full)
	}
}

// So of all ballots of a profile.
func TestAllBallotsAreAgainstSomebody(t *testing.T) {
	random := rand.New(rand.NewSource(523))
	for i := range 4000 {
		cands := 1 + random.Intn(10)
		p := randomProfile(random, cands, api.KindRank)
		if i%2 == 0 {
			p = complete(random, cands)
		}
		left := randomLeft(random, cands)
		sum := 0
		for _, n := range checkModel(t, p, left) {
			sum += n
		}
		all := many(t, p)
		if !slices.Contains(left[:min(cands, len(left))], true) {
			all = 0
		}
		if sum < all || i%2 == 0 && sum != all || all == 0 && sum != 0 {
			t.Errorf("of %s, left %v: %d in all, of %d ballots", show(p), left, sum, many(t, p))
		}
	}
}

// Where every ballot ranks all candidates, of whom there are at least two, one that is last on more than half is not elected, even if it comes first in the lot, and is first on almost half.
func TestTheLastOfMoreThanHalf(t *testing.T) {
	random := rand.New(rand.NewSource(524))
	ahead, bare, later := 0, 0, 0
	for range 3000 {
		cands := 2 + random.Intn(9)
		p, c := complete(random, cands), random.Intn(cands)
		p = add(p, 1+random.Intn(30), firstFor(random, cands, c)...)
		for missing := many(t, p) - 2*lastOn(p, c) + 1; missing > 0; missing = many(t, p) - 2*lastOn(p, c) + 1 {
			p = add(p, 1+random.Intn(missing), lastFor(random, cands, c)...)
		}
		if 2*lastOn(p, c) == many(t, p)+1 {
			bare++
		}
		if !slices.ContainsFunc(others(cands, c), func(o int) bool { return firstOn(p, o) >= firstOn(p, c) }) {
			ahead++
		}
		for _, lot := range [][]int{firstFor(random, cands, c), lastFor(random, cands, c)} {
			o := run(t, p, lot)
			if o.Elected[0] == c {
				t.Errorf("the count of %s, lot %v: %v; %d is last on more than half", show(p), lot, o, c)
			}
			if len(o.Rounds) > 1 {
				later++
				if !slices.Equal(o.Rounds[0].Out, []int{c}) {
					t.Errorf("the count of %s, lot %v: %v; want %d out first", show(p), lot, o, c)
				}
			}
		}
	}
	if ahead < 250 || bare < 500 || later < 1000 {
		t.Errorf("%d have the most ballots at first, %d are last on a bare majority, and %d are eliminated", ahead, bare, later)
	}
	found := 0
	for range 1000 {
		p := evened(random, complete(random, 2+random.Intn(4)))
		o := run(t, p, nil)
		for c := range p.Cands {
			if 2*lastOn(p, c) > many(t, p) {
				found++
				if o.Elected[0] == c {
					t.Errorf("the count of %s: %v", show(p), o)
				}
			}
		}
	}
	if found < 100 {
		t.Errorf("%d are last on more than half", found)
	}
}

// Just half of all ballots is not enough; nor is more than half where there is one candidate alone.
func TestTheLastOfHalf(t *testing.T) {
	check(t, ranks(2, row(3, 0, 1), row(3, 1, 0)), []int{1, 0}, outcome([]api.Tie{tie(0, 0, 1)}, out(0, 0, 3, 3), won(1, 0, 0, 6)))
	check(t, ranks(3, row(3, 0, 1, 2), row(3, 1, 2, 0)), []int{0, 1, 2}, outcome([]api.Tie{tie(2, 0, 2), tie(1, 0, 1)}, out(2, 0, 3, 3, 0), out(1, 0, 3, 3, 0), won(0, 0, 6, 0, 0)))
	check(t, ranks(1, row(3, 0)), []int{0}, untied(won(0, 0, 3)))
}

// In every round Had and Lost add up to the number of ballots; and whoever is no longer left has none.
func TestEachRoundHasAllBallots(t *testing.T) {
	random := rand.New(rand.NewSource(525))
	rounds := 0
	for i := range 4000 {
		p := leaning(random)
		if i%2 == 0 {
			p = randomProfile(random, 1+random.Intn(10), 1)
		}
		total := many(t, p)
		var gone []int
		for _, r := range run(t, p, random.Perm(p.Cands)).Rounds {
			rounds++
			sum := number(r.Lost)
			for c, x := range r.Had {
				n := number(x)
				sum += n
				if n < 0 || slices.Contains(gone, c) && n != 0 {
					t.Errorf("the round %v of %s, after %v", r, show(p), gone)
				}
			}
			if sum != total || number(r.Lost) < 0 {
				t.Errorf("the round %v of %s has %d ballots; want %d", r, show(p), sum, total)
			}
			gone = append(gone, r.Out...)
		}
	}
	if rounds < 10000 {
		t.Errorf("%d rounds", rounds)
	}
}

// renamedLot returns the lot with candidate c called perm[c].
func renamedLot(lot, perm []int) []int {
	var l []int
	for _, c := range lot {
		l = append(l, perm[c])
	}
	return l
}

func TestRenamingRenamesTheOutcome(t *testing.T) {
	random := rand.New(rand.NewSource(526))
	ties := 0
	for i := range 4000 {
		p := leaning(random)
		if i%2 == 0 {
			p = evened(random, p)
		}
		perm, lot := random.Perm(p.Cands), random.Perm(p.Cands)
		renamed, e := profile.Rename(p, perm)
		if e != api.OK {
			t.Fatal(show(p), int(e))
		}
		o, again := run(t, p, lot), run(t, renamed, renamedLot(lot, perm))
		if want := modelRename(o, perm); !same(again, want) {
			t.Errorf("the count of %s, lot %v, renamed by %v: %v; want %v", show(p), lot, perm, again, want)
		}
		ties += len(o.Ties)
	}
	if ties < 2000 {
		t.Errorf("%d ties are renamed", ties)
	}
}

func TestRenamingRenamesLasts(t *testing.T) {
	random := rand.New(rand.NewSource(527))
	for range 3000 {
		p := leaning(random)
		perm := random.Perm(p.Cands)
		left := randomLeft(random, p.Cands)
		renamed, e := profile.Rename(p, perm)
		if e != api.OK {
			t.Fatal(show(p), int(e))
		}
		leftToo := make([]bool, p.Cands)
		for c := range leftToo {
			leftToo[perm[c]] = modelIsLeft(left, c)
		}
		against, _ := coombs.Lasts(p, left)
		again, e := coombs.Lasts(renamed, leftToo)
		for c, n := range against {
			if e != api.OK || len(again) != p.Cands || again[perm[c]] != n {
				t.Fatalf("of %s, left %v: %v; renamed by %v: %v", show(p), left, against, perm, again)
			}
		}
	}
}

// Without a tie the lot decides nothing.
func TestTheLotDecidesOnlyTies(t *testing.T) {
	random := rand.New(rand.NewSource(528))
	untied := 0
	for range 3000 {
		p := leaning(random)
		o := run(t, p, random.Perm(p.Cands))
		if len(o.Ties) > 0 {
			continue
		}
		untied++
		if again := run(t, p, random.Perm(p.Cands)); !same(o, again) {
			t.Errorf("the count of %s: %v; by another lot %v", show(p), o, again)
		}
	}
	if untied < 500 {
		t.Errorf("%d outcomes without a tie", untied)
	}
}

// Twice the ballots: the same candidates and ties, with numbers twice as great.
func TestTwiceTheBallots(t *testing.T) {
	random := rand.New(rand.NewSource(529))
	for range 1500 {
		p := leaning(random)
		twice, e := profile.Sum(p, p)
		if e != api.OK {
			continue
		}
		lot := random.Perm(p.Cands)
		want := run(t, p, lot)
		for i := range want.Rounds {
			r := &want.Rounds[i]
			r.Lost = modelNumber(2 * number(r.Lost))
			for c, x := range r.Had {
				r.Had[c] = modelNumber(2 * number(x))
			}
		}
		if o := run(t, twice, lot); !same(o, want) {
			t.Errorf("twice the ballots of %s, lot %v: %v; want %v", show(p), lot, o, want)
		}
	}
}

// Of a count, the rounds from the second on are those of the ballots that are left then, but for those that are exhausted, which are blank there.
func TestTheRestOfACount(t *testing.T) {
	random := rand.New(rand.NewSource(530))
	rests := 0
	for range 3000 {
		p := leaning(random)
		lot := random.Perm(p.Cands)
		o := run(t, p, lot)
		if len(o.Rounds) == 1 {
			continue
		}
		gone := o.Rounds[0].Out[0]
		left := slices.Repeat([]bool{true}, p.Cands)
		left[gone] = false
		kept, e := profile.Keep(p, left)
		if e != api.OK {
			t.Fatal(show(p), int(e))
		}
		// There, all ballots are against the eliminated one, and by this lot it is out before any other with as many, unless somebody has a majority at once.
		rest := run(t, kept, append(slices.DeleteFunc(slices.Clone(lot), func(c int) bool { return c == gone }), gone))
		if len(rest.Rounds[0].Out) > 0 {
			if !slices.Equal(rest.Rounds[0].Out, []int{gone}) {
				t.Errorf("the rest of %s, lot %v, without %d: %v", show(p), lot, gone, rest)
			}
			rest.Rounds = rest.Rounds[1:]
		}
		if !same(api.Outcome{Elected: rest.Elected, Rounds: rest.Rounds}, api.Outcome{Elected: o.Elected, Rounds: o.Rounds[1:]}) {
			t.Errorf("the count of %s, lot %v: %v; of the rest %v", show(p), lot, o, rest)
		}
		rests++
	}
	if rests < 800 {
		t.Errorf("%d counts have a rest", rests)
	}
}

// A ballot with one mark is against all others that are left, and a blank one against all: if all ballots are of these, the most are against those with the fewest, and the outcome is that of layer 15. So it is among two candidates.
func TestOutcomesThatAreThoseOfRunoff(t *testing.T) {
	random := rand.New(rand.NewSource(531))
	rounds := 0
	for i := range 3000 {
		cands := 2 + i%2*random.Intn(9)
		p := ranks(cands)
		for range random.Intn(20) {
			most := 2
			if i%2 > 0 {
				most = 1
			}
			p = add(p, 1+random.Intn(4), random.Perm(cands)[:random.Intn(most+1)]...)
		}
		lot := random.Perm(cands)
		want, e := runoff.Count(p, 1, lot)
		if e != api.OK {
			t.Fatal(show(p), int(e))
		}
		if o := run(t, p, lot); !same(o, want) {
			t.Errorf("the count of %s, lot %v: %v; by runoff %v", show(p), lot, o, want)
		}
		rounds += len(want.Rounds)
	}
	if rounds < 6000 {
		t.Errorf("%d rounds", rounds)
	}
}
