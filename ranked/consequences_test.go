package ranked_test

import (
	"math/rand"
	"slices"
	"testing"

	"suffrage/api"
	"suffrage/condorcet"
	"suffrage/pairs"
	"suffrage/profile"
	"suffrage/ranked"
	"suffrage/ratio"
)

// P14.3

// run returns the outcome of a call that is right.
func run(t *testing.T, p api.Profile, lot []int) api.Outcome {
	t.Helper()
	o, e := ranked.Count(p, 1, lot)
	if e != api.OK || len(o.Rounds) != 1 || len(o.Rounds[0].Had) != p.Cands || len(o.Elected) != 1 {
		t.Fatalf("the count of %s, lot %v: %v, %d", show(p), lot, o, int(e))
	}
	return o
}

// lastFor returns a lot in which a candidate comes last.
func lastFor(random *rand.Rand, cands, c int) []int {
	return append(slices.DeleteFunc(random.Perm(cands), func(o int) bool { return o == c }), c)
}

// firstFor returns a lot in which a candidate comes first.
func firstFor(random *rand.Rand, cands, c int) []int {
	lot := lastFor(random, cands, c)
	return append([]int{c}, lot[:cands-1]...)
}

// election is a matrix and a lot of as many candidates as it is valid among.
type election struct {
	m   api.Pairs
	lot []int
}

// elections returns all matrices with few links, and others at random, with lots.
func elections() []election {
	random := rand.New(rand.NewSource(331))
	var all []election
	for i, l := range [][]api.Pairs{linked(1, 1), linked(2, 1, 2, 3), linked(3, 1, 2, 3), linked(4, 1, 2)} {
		for _, m := range l {
			all = append(all, election{m, random.Perm(i + 1)})
		}
	}
	for cands := 5; cands <= 10; cands++ {
		for range 500 {
			all = append(all, election{randomMatrix(random, cands), random.Perm(cands)})
		}
		for range 100 { // a link between any two
			all = append(all, election{tournament(random, cands), random.Perm(cands)})
		}
	}
	return all
}

// tournament returns a matrix in which of any two candidates one has a link to the other, at random.
func tournament(random *rand.Rand, cands int) api.Pairs {
	var m api.Pairs
	for x := range cands {
		for y := range x {
			n := 1 + random.Intn(50)
			less := random.Intn(n)
			m[x][y], m[y][x] = n, less
			if random.Intn(2) == 0 {
				m[x][y], m[y][x] = less, n
			}
		}
	}
	return m
}

// isWithoutCycle takes away who is not led to, again and again, until nobody or only cycles are left.
func isWithoutCycle(l []api.Link, cands int) bool {
	left := upTo(cands)
	for range cands {
		left = slices.DeleteFunc(left, func(c int) bool {
			return !slices.ContainsFunc(l, func(k api.Link) bool { return k.To == c && slices.Contains(left, k.From) })
		})
	}
	return len(left) == 0
}

func TestLockedLinksContainNoCycle(t *testing.T) {
	cycles := 0
	for _, x := range elections() {
		order, l := ordered(x.m, x.lot), locked(x.m, x.lot)
		if !isWithoutCycle(l, len(x.lot)) {
			t.Errorf("the locked links of %v are %v", x, l)
		}
		for c := range x.lot {
			if ranked.Leads(l, c, c) {
				t.Errorf("the locked links of %v are %v: they lead from %d to itself", x, l, c)
			}
		}
		if !isWithoutCycle(order, len(x.lot)) {
			cycles++
		}
		// Without a cycle all links are locked, and with one not all are.
		if isWithoutCycle(order, len(x.lot)) != slices.Equal(order, l) {
			t.Errorf("the links of %v are %v, and the locked ones %v", x, order, l)
		}
	}
	if cycles < 2000 {
		t.Errorf("%d matrices have cycles", cycles)
	}
}

// For each link that is not locked, those locked before it contain a path back; for the others they do not. And the locked links come in the order of all.
func TestWhatIsNotLockedWouldCloseACycle(t *testing.T) {
	notLocked, lengths := 0, map[int]int{}
	for _, x := range elections() {
		l := locked(x.m, x.lot)
		next := 0
		for _, k := range ordered(x.m, x.lot) {
			before := l[:next]
			isLocked := next < len(l) && l[next] == k
			if isLocked {
				next++
			} else {
				notLocked++
				lengths[shortest(before, k.To, k.From)]++
			}
			if modelLeads(before, k.To, k.From) == isLocked || ranked.Leads(before, k.To, k.From) == isLocked {
				t.Errorf("of %v, %v are locked before %v; is that locked? %v", x, before, k, isLocked)
			}
		}
		if next != len(l) {
			t.Errorf("the locked links of %v are %v, not in order", x, l)
		}
	}
	if notLocked < 10000 || lengths[0]+lengths[1] > 0 || lengths[2] < 1000 || lengths[3] < 500 || lengths[4] < 100 || lengths[5] < 20 {
		t.Errorf("%d links are not locked, because of paths of so many links: %v", notLocked, lengths)
	}
}

// shortest returns the number of links of the shortest path from x to y, or 0 if there is none.
func shortest(l []api.Link, x, y int) int {
	at := map[int]bool{x: true}
	for length := 1; length <= 10; length++ {
		next := map[int]bool{}
		for _, k := range l {
			if at[k.From] {
				next[k.To] = true
			}
		}
		if next[y] {
			return length
		}
		at = next
	}
	return 0
}

// There is always an undefeated candidate, and only one if there is a link between any two.
func TestSomebodyIsUndefeated(t *testing.T) {
	several := 0
	for _, x := range elections() {
		l := locked(x.m, x.lot)
		undefeated := slices.DeleteFunc(upTo(len(x.lot)), func(c int) bool {
			return slices.ContainsFunc(l, func(k api.Link) bool { return k.To == c })
		})
		n := len(x.lot)
		all := len(ordered(x.m, x.lot)) == n*(n-1)/2
		if len(undefeated) == 0 || all && len(undefeated) > 1 {
			t.Errorf("the locked links of %v are %v: undefeated are %v", x, l, undefeated)
		}
		if len(undefeated) > 1 {
			several++
		}
	}
	if several < 1000 {
		t.Errorf("%d times there are several", several)
	}
}

// Between any two who have a link, the locked links contain a path the one way or the other, and never both ways.
func TestLockedLinksOrderWhoHaveALink(t *testing.T) {
	for _, x := range elections() {
		l := locked(x.m, x.lot)
		for _, k := range ordered(x.m, x.lot) {
			if ranked.Leads(l, k.From, k.To) == ranked.Leads(l, k.To, k.From) {
				t.Errorf("the locked links of %v are %v: between %d and %d", x, l, k.From, k.To)
			}
		}
	}
}

// E1: the Condorcet winner is elected, without a tie and whatever the lot.
func TestTheCondorcetWinnerIsElected(t *testing.T) {
	random := rand.New(rand.NewSource(332))
	winners := 0
	for range 4000 {
		p := leaning(random)
		winner, ok := condorcet.Winner(matrixOf(t, p), p.Cands)
		if !ok {
			continue
		}
		winners++
		for _, lot := range [][]int{lastFor(random, p.Cands, winner), firstFor(random, p.Cands, winner)} {
			o := run(t, p, lot)
			if !slices.Equal(o.Elected, []int{winner}) || len(o.Ties) > 0 || !ratio.Same(o.Rounds[0].Had[winner], ratio.Whole(p.Cands-1)) {
				t.Errorf("the count of %s, lot %v: %v; the winner is %d", show(p), lot, o, winner)
			}
		}
	}
	if winners < 1500 || winners > 3800 {
		t.Errorf("%d profiles have a winner", winners)
	}
}

// E1: a member of the Smith set is elected, whatever the lot; and so is each of those that are tied.
func TestAMemberOfTheSmithSetIsElected(t *testing.T) {
	random := rand.New(rand.NewSource(333))
	outside, ties := 0, 0
	for range 3000 {
		p := leaning(random)
		smith, e := condorcet.Smith(matrixOf(t, p), p.Cands)
		if e != api.OK {
			t.Fatal(show(p), int(e))
		}
		if len(smith) > 1 && len(smith) < p.Cands {
			outside++
		}
		for c := range p.Cands {
			o := run(t, p, firstFor(random, p.Cands, c))
			among := slices.Clone(o.Elected)
			for _, x := range o.Ties {
				among = append(among, x.Among...)
				ties++
			}
			if slices.ContainsFunc(among, func(c int) bool { return !slices.Contains(smith, c) }) {
				t.Errorf("the count of %s: %v; the Smith set is %v", show(p), o, smith)
			}
		}
	}
	if outside < 200 || ties < 700 {
		t.Errorf("%d Smith sets are of some of the candidates; %d ties", outside, ties)
	}
}

// The Condorcet loser is not elected, if there is another candidate, and no locked link leads from it.
func TestTheCondorcetLoserLoses(t *testing.T) {
	random := rand.New(rand.NewSource(334))
	losers := 0
	for range 3000 {
		p := leaning(random)
		loser, ok := condorcet.Loser(matrixOf(t, p), p.Cands)
		if !ok || p.Cands == 1 {
			continue
		}
		losers++
		lot := firstFor(random, p.Cands, loser)
		if o := run(t, p, lot); o.Elected[0] == loser || !ratio.Same(o.Rounds[0].Had[loser], ratio.Whole(0)) {
			t.Errorf("the count of %s, lot %v: %v; the loser is %d", show(p), lot, o, loser)
		}
	}
	if losers < 1000 {
		t.Errorf("%d profiles have a loser", losers)
	}
}

// renamedLot returns the lot with candidate c called perm[c].
func renamedLot(lot, perm []int) []int {
	var l []int
	for _, c := range lot {
		l = append(l, perm[c])
	}
	return l
}

func TestRenamingRenamesTheOutcome(t *testing.T) {
	random := rand.New(rand.NewSource(335))
	ties := 0
	for range 3000 {
		p := leaning(random)
		perm, lot := random.Perm(p.Cands), random.Perm(p.Cands)
		renamed, e := profile.Rename(p, perm)
		if e != api.OK {
			t.Fatal(show(p), int(e))
		}
		o, again := run(t, p, lot), run(t, renamed, renamedLot(lot, perm))
		if want := modelRename(o, perm); !same(again, want) {
			t.Errorf("the count of %s, lot %v, renamed by %v: %v; want %v", show(p), lot, perm, again, want)
		}
		ties += len(o.Ties)
	}
	if ties < 150 {
		t.Errorf("%d ties are renamed", ties)
	}
}

// Renaming the candidates of a matrix, and the lot with them, renames its links and the locked ones, and keeps their order.
func TestRenamingAMatrix(t *testing.T) {
	random := rand.New(rand.NewSource(336))
	for _, x := range elections() {
		perm := random.Perm(len(x.lot))
		renamed, e := pairs.Rename(x.m, perm)
		if e != api.OK {
			t.Fatal(x, int(e))
		}
		lot := renamedLot(x.lot, perm)
		if l, want := ordered(renamed, lot), modelRenameLinks(ordered(x.m, x.lot), perm); !slices.Equal(l, want) {
			t.Errorf("the links of %v, renamed by %v, are %v; want %v", x, perm, l, want)
		}
		if l, want := locked(renamed, lot), modelRenameLinks(locked(x.m, x.lot), perm); !slices.Equal(l, want) {
			t.Errorf("the locked links of %v, renamed by %v, are %v; want %v", x, perm, l, want)
		}
	}
}

// Where all margins are different, the lot decides neither the order nor what is locked.
func TestTheLotDecidesNothingWhereMarginsDiffer(t *testing.T) {
	random := rand.New(rand.NewSource(337))
	for range 1000 {
		cands := 2 + random.Intn(9)
		var m api.Pairs
		margins := random.Perm(45)
		for x := range cands {
			for y := range x {
				n := 1 + margins[len(margins)-1]
				margins = margins[:len(margins)-1]
				if random.Intn(2) == 0 {
					m[x][y] = n
				} else {
					m[y][x] = n
				}
			}
		}
		lot, other := random.Perm(cands), random.Perm(cands)
		if order, again := ordered(m, lot), ordered(m, other); !slices.Equal(order, again) {
			t.Errorf("the links of %v, lot %v, are %v; by the lot %v, %v", m, lot, order, other, again)
		}
		if l, again := locked(m, lot), locked(m, other); !slices.Equal(l, again) {
			t.Errorf("the locked links of %v, lot %v, are %v; by the lot %v, %v", m, lot, l, other, again)
		}
	}
}

// Twice the ballots: the same outcome, and the same links with numbers twice as great.
func TestTwiceTheBallots(t *testing.T) {
	random := rand.New(rand.NewSource(338))
	for range 1000 {
		p := leaning(random)
		twice, e := profile.Sum(p, p)
		if e != api.OK {
			continue
		}
		lot := random.Perm(p.Cands)
		if o, again := run(t, p, lot), run(t, twice, lot); !same(o, again) {
			t.Errorf("the count of %s, lot %v: %v; of twice as many ballots %v", show(p), lot, o, again)
		}
		var want []api.Link
		for _, k := range locked(matrixOf(t, p), lot) {
			want = append(want, link(k.From, k.To, 2*k.Margin, 2*k.For))
		}
		if l := locked(matrixOf(t, twice), lot); !slices.Equal(l, want) {
			t.Errorf("the locked links of twice %s, lot %v, are %v; want %v", show(p), lot, l, want)
		}
	}
}

// Of links from one candidate whose numbers are equal, the order by To decides nothing: whichever comes first, the same ones are locked.
func TestTheOrderByToDecidesNothing(t *testing.T) {
	changed := 0
	for _, x := range elections() {
		order := ordered(x.m, x.lot)
		other := slices.Clone(order)
		for i := 1; i < len(other); i++ {
			a, b := other[i-1], other[i]
			if a.Margin == b.Margin && a.For == b.For && a.From == b.From {
				other[i-1], other[i] = b, a
				changed++
			}
		}
		var l []api.Link
		for _, k := range other {
			if !modelLeads(l, k.To, k.From) {
				l = append(l, k)
			}
		}
		want := slices.DeleteFunc(order, func(k api.Link) bool { return !slices.Contains(l, k) })
		if got := locked(x.m, x.lot); !slices.Equal(got, want) {
			t.Errorf("the locked links of %v are %v; in another order they would be %v", x, got, want)
		}
	}
	if changed < 2000 {
		t.Errorf("%d links change places", changed)
	}
}
