package ranked_test

import (
	"math"
	"math/rand"
	"slices"
	"testing"

	"suffrage/api"
	"suffrage/ranked"
)

// P14.1: Leads

func checkLeads(t *testing.T, l []api.Link, x, y int, want bool) {
	t.Helper()
	if ranked.Leads(l, x, y) != want {
		t.Errorf("%d links %v lead from %d to %d: %v", len(l), l[:min(len(l), 50)], x, y, !want)
	}
}

// checkTwice asserts the answer of the package and of the model.
func checkTwice(t *testing.T, l []api.Link, x, y int, want bool) {
	t.Helper()
	checkLeads(t, l, x, y, want)
	if modelLeads(l, x, y) != want {
		t.Errorf("by the model, the links %v lead from %d to %d: %v", l, x, y, !want)
	}
}

// checkReach asserts for all candidates where the links lead from one of them.
func checkReach(t *testing.T, l []api.Link, x int, reached ...int) {
	t.Helper()
	for y := range 11 {
		checkTwice(t, l, x, y, slices.Contains(reached, y))
	}
}

func TestNothingLeads(t *testing.T) {
	for _, l := range [][]api.Link{nil, {}, []api.Link{step(3, 4), step(4, 3)}[:0]} {
		for _, x := range append(wilds(), 4) {
			for _, y := range append(wilds(), 4) {
				checkTwice(t, l, x, y, false)
			}
		}
	}
}

func TestALinkLeads(t *testing.T) {
	for from := range 10 {
		for to := range 10 {
			l := []api.Link{step(from, to)}
			for c := range 10 {
				if c == from {
					checkReach(t, l, c, to)
				} else {
					checkReach(t, l, c)
				}
			}
		}
	}
}

// A path has at least one link: to itself a candidate has one only by way of a cycle, or of a link to itself.
func TestFromACandidateToItself(t *testing.T) {
	line := []api.Link{step(0, 1), step(1, 2), step(2, 3)}
	for c := range 4 {
		checkTwice(t, line, c, c, false)
		checkTwice(t, append(slices.Clone(line), step(c, c)), c, c, true)
		for _, o := range others(4, c) {
			checkTwice(t, append(slices.Clone(line), step(o, o)), c, c, false)
		}
		checkTwice(t, append(slices.Clone(line), step(3, 0)), c, c, true)
		checkTwice(t, append(slices.Clone(line), step(3, 1)), c, c, c > 0)
		checkTwice(t, append(slices.Clone(line), step(2, 1)), c, c, c == 1 || c == 2)
		checkTwice(t, append(slices.Clone(line), step(1, 0)), c, c, c == 0 || c == 1)
	}
	for c := range 10 {
		checkTwice(t, []api.Link{step(c, c)}, c, c, true)
		checkTwice(t, []api.Link{step(c, c), step(c, c)}, c, c, true)
		checkTwice(t, []api.Link{step(c, 10), step(10, c)}, c, c, true)
	}
}

// A link to itself leads nowhere else, and keeps no search from its end.
func TestLinksToThemselves(t *testing.T) {
	l := []api.Link{step(0, 0), step(0, 1), step(1, 1), step(1, 2), step(2, 2), step(4, 4)}
	checkReach(t, l, 0, 0, 1, 2)
	checkReach(t, l, 1, 1, 2)
	checkReach(t, l, 2, 2)
	checkReach(t, l, 3)
	checkReach(t, l, 4, 4)
}

// The links may come in any order: forth, back, and mixed.
func TestLinksInAnyOrder(t *testing.T) {
	line := []api.Link{step(0, 1), step(1, 2), step(2, 3), step(3, 4)}
	for _, order := range lots(4) {
		var l []api.Link
		for _, i := range order {
			l = append(l, line[i])
		}
		for x := range 5 {
			checkReach(t, l, x, upTo(5)[x+1:]...)
		}
	}
	// Names in no order along the path.
	l := []api.Link{step(7, 2), step(2, 9), step(9, 0), step(0, 5)}
	for _, order := range lots(4) {
		var mixed []api.Link
		for _, i := range order {
			mixed = append(mixed, l[i])
		}
		checkReach(t, mixed, 7, 2, 9, 0, 5)
		checkReach(t, mixed, 2, 9, 0, 5)
		checkReach(t, mixed, 9, 0, 5)
		checkReach(t, mixed, 0, 5)
		checkReach(t, mixed, 5)
	}
}

func TestTheSameLinkMoreThanOnce(t *testing.T) {
	l := []api.Link{step(1, 2), step(1, 2), step(2, 3), link(1, 2, 3, 5), step(2, 3), link(1, 2, 3, 5), step(0, 1), step(0, 1)}
	checkReach(t, l, 0, 1, 2, 3)
	checkReach(t, l, 1, 2, 3)
	checkReach(t, l, 2, 3)
	checkReach(t, l, 3)
	many := slices.Concat(slices.Repeat([]api.Link{step(4, 5)}, 10000), slices.Repeat([]api.Link{step(5, 6)}, 10000), slices.Repeat([]api.Link{step(6, 4)}, 10000))
	for x := 4; x <= 6; x++ {
		for y := range 10 {
			checkLeads(t, many, x, y, y >= 4 && y <= 6)
		}
	}
}

// A search that went by the first link alone, or by the last, would find nothing.
func TestWaysThatLeadNowhere(t *testing.T) {
	// From 0 there are three ways, of which one leads on; the others end, or lead into cycles.
	ends := []api.Link{step(0, 1), step(0, 2), step(0, 3), step(1, 4), step(2, 5), step(3, 6), step(5, 7)}
	checkReach(t, ends, 0, 1, 2, 3, 4, 5, 6, 7)
	checkReach(t, ends, 1, 4)
	checkReach(t, ends, 2, 5, 7)
	checkReach(t, ends, 3, 6)
	cycles := []api.Link{step(0, 1), step(1, 2), step(2, 0), step(0, 3), step(3, 4), step(4, 3), step(3, 0), step(1, 5), step(6, 0), step(5, 7), step(8, 9), step(9, 8)}
	for x := range 5 {
		checkReach(t, cycles, x, 0, 1, 2, 3, 4, 5, 7)
	}
	checkReach(t, cycles, 5, 7)
	checkReach(t, cycles, 6, 0, 1, 2, 3, 4, 5, 7)
	checkReach(t, cycles, 7)
	checkReach(t, cycles, 8, 8, 9)
	checkReach(t, cycles, 9, 8, 9)
}

// Each of ten candidates has a link to each, and to itself: a search that forgot where it was would not end.
func TestEveryoneHasALinkToEveryone(t *testing.T) {
	var l []api.Link
	for x := range 10 {
		for y := range 10 {
			l = append(l, step(x, y))
		}
	}
	for x := range 10 {
		checkReach(t, l, x, upTo(10)...)
	}
	checkReach(t, l, 10)
	checkReach(t, l, -1)
	// All links ahead among ten: there are many ways to the same places.
	l = slices.DeleteFunc(l, func(k api.Link) bool { return k.From >= k.To })
	for x := range 10 {
		checkReach(t, l, x, upTo(10)[x+1:]...)
	}
}

// Where a link leads to does not hang on where others start from, though the numbers are close to each other or far away.
func TestNumbersThatAreNoCandidates(t *testing.T) {
	all := append(wilds(), -5, 64, 1<<32+10, 1<<62+3)
	for i, x := range all {
		y, z := all[(i+1)%len(all)], all[(i+5)%len(all)]
		l := []api.Link{step(y, z), step(x, y)}
		for _, c := range all {
			checkTwice(t, l, x, c, c == y || c == z)
			checkTwice(t, l, y, c, c == z)
			checkTwice(t, l, c, x, false)
			checkTwice(t, append(l, step(z, x)), y, c, c == x || c == y || c == z)
			checkTwice(t, []api.Link{step(x, x)}, c, x, c == x)
			checkTwice(t, []api.Link{step(x, x)}, x, c, c == x)
		}
		// Near ones are others.
		for _, other := range []int{x ^ 1, x ^ 1<<8, x ^ 1<<31, x ^ 1<<32, x ^ 1<<62, x ^ math.MinInt} {
			checkTwice(t, []api.Link{step(x, 77)}, other, 77, false)
			checkTwice(t, []api.Link{step(77, x)}, 77, other, false)
			checkTwice(t, []api.Link{step(77, x), step(other, 78)}, 77, 78, false)
			checkTwice(t, []api.Link{step(77, x), step(x, other), step(other, 78)}, 77, 78, true)
		}
	}
}

// Margin and For do not matter: not when they are 0, below, or as great as can be.
func TestNumbersOfLinksDoNotMatter(t *testing.T) {
	for _, n := range wilds() {
		for _, o := range wilds() {
			l := []api.Link{link(2, 5, n, o), link(5, 1, o, n), link(1, 2, n, n), link(1, 7, o, o)}
			checkTwice(t, l, 2, 7, true)
			checkTwice(t, l, 2, 2, true)
			checkTwice(t, l, 7, 2, false)
			checkTwice(t, l[:2], 2, 1, true)
			checkTwice(t, l[:2], 2, 2, false)
			checkTwice(t, l[1:2], 2, 1, false)
		}
	}
}

// shuffled returns the links in another order.
func shuffled(random *rand.Rand, l []api.Link) []api.Link {
	l = slices.Clone(l)
	random.Shuffle(len(l), func(i, j int) { l[i], l[j] = l[j], l[i] })
	return l
}

// Paths of many links, with and without a gap, and in any order.
func TestLongPaths(t *testing.T) {
	random := rand.New(rand.NewSource(311))
	for _, length := range []int{10, 100, 999, 1000, 1001, 1002, 1999, 2000, 2001, 2002, 3003, 10000, 1 << 16, 1<<16 + 1, 1 << 18} {
		var line []api.Link
		for i := range length {
			line = append(line, step(i, i+1))
		}
		back := slices.Clone(line)
		slices.Reverse(back)
		for _, l := range [][]api.Link{line, back, shuffled(random, line)} {
			checkLeads(t, l, 0, length, true)
			checkLeads(t, l, 1, length, true)
			checkLeads(t, l, 0, length-1, true)
			checkLeads(t, l, 0, length+1, false)
			checkLeads(t, l, 0, 0, false)
			checkLeads(t, l, length, 0, false)
			checkLeads(t, append(l, step(length, 0)), 0, 0, true)
			checkLeads(t, append(l, step(length, 0)), length/2, length/2, true)
			checkLeads(t, append(l, step(length, 0)), length/2, -1, false)
			checkLeads(t, append(l, step(length, 1)), 0, 0, false)
			gap := slices.Index(l, step(length/2, length/2+1))
			checkLeads(t, slices.Delete(slices.Clone(l), gap, gap+1), 0, length, false)
			checkLeads(t, slices.Delete(slices.Clone(l), gap, gap+1), 0, length/2, true)
			checkLeads(t, slices.Delete(slices.Clone(l), gap, gap+1), length/2+1, length, true)
		}
	}
}

// A path of some millions of links does not exhaust the stack.
func TestAVeryLongPath(t *testing.T) {
	const length = 1 << 22
	l := make([]api.Link, length)
	for i := range l {
		l[i] = step(i, i+1)
	}
	checkLeads(t, l, 0, length, true)
	checkLeads(t, l, 0, 0, false)
}

// Many links from one candidate, and many to one: each candidate is left once, however many ways lead there.
func TestManyWays(t *testing.T) {
	const many = 100000
	var l []api.Link
	for i := range many {
		l = append(l, step(-1, i), step(i, many), step(many, i), step(many, many+1+i))
	}
	checkLeads(t, l, -1, many, true)
	checkLeads(t, l, -1, 2*many, true)
	checkLeads(t, l, 5, -1, false)
	checkLeads(t, l, 5, 5, true)
	checkLeads(t, l, -1, 2*many+1, false)
	checkLeads(t, l, -1, -1, false)
	// A ladder of many rungs, with two ways at each.
	l = nil
	for i := range many {
		l = append(l, step(2*i, 2*i+2), step(2*i, 2*i+3), step(2*i+1, 2*i+3), step(2*i+1, 2*i+2))
	}
	for _, l := range [][]api.Link{l, shuffled(rand.New(rand.NewSource(312)), l)} {
		checkLeads(t, l, 0, 2*many, true)
		checkLeads(t, l, 0, 2*many+1, true)
		checkLeads(t, l, 0, 1, false)
		checkLeads(t, l, 2, 1, false)
	}
}

// Long cycles with side ways, in which what lies far ahead is also near.
func TestNearAndFar(t *testing.T) {
	const length = 5000
	var l []api.Link
	for i := range length {
		l = append(l, step(i, (i+1)%length), step(i, (i+3)%length), step((i+1)%length, i))
	}
	l = append(l, step(2700, -7), step(-7, -8))
	for _, l := range [][]api.Link{l, shuffled(rand.New(rand.NewSource(313)), l)} {
		for _, x := range []int{0, 1, 999, 1000, 2699, 2700, 4999} {
			checkLeads(t, l, x, x, true)
			checkLeads(t, l, x, (x+length-1)%length, true)
			checkLeads(t, l, x, -8, true)
			checkLeads(t, l, x, -9, false)
			checkLeads(t, l, -8, x, false)
		}
	}
}

// All sets of links among three candidates, links to themselves among them.
func TestAllLinksOfThreeLead(t *testing.T) {
	leads := 0
	for set := range 1 << 9 {
		var l []api.Link
		for i := range 9 {
			if set>>i&1 == 1 {
				l = append(l, step(i/3, i%3))
			}
		}
		for x := range 4 {
			for y := range 4 {
				want := modelLeads(l, x, y)
				checkLeads(t, l, x, y, want)
				if want {
					leads++
				}
			}
		}
	}
	if leads < 1000 {
		t.Errorf("%d times there is a path", leads)
	}
}

func TestRandomLinksLeadAsInTheModel(t *testing.T) {
	random := rand.New(rand.NewSource(314))
	seen := map[bool]int{}
	for range 20000 {
		l := randomLinks(random)
		x, y := random.Intn(10), random.Intn(10)
		if len(l) > 0 && random.Intn(4) > 0 {
			x, y = l[random.Intn(len(l))].From, l[random.Intn(len(l))].To
		}
		if random.Intn(10) == 0 {
			y = randomWild(random)
		}
		want := modelLeads(l, x, y)
		checkLeads(t, l, x, y, want)
		seen[want]++
	}
	if seen[true] < 5000 || seen[false] < 5000 {
		t.Errorf("the answers are %v", seen)
	}
}

// Many links among many candidates, where searches go deep and wide.
func TestGreatRandomLinksLeadAsInTheModel(t *testing.T) {
	random := rand.New(rand.NewSource(315))
	seen := map[bool]int{}
	for range 60 {
		names := 1000 + random.Intn(9000)
		var l []api.Link
		for range names + names/4 {
			l = append(l, step(random.Intn(names), random.Intn(names)))
		}
		for range 3 {
			x, y := random.Intn(names), random.Intn(names)
			want := modelLeads(l, x, y)
			checkLeads(t, l, x, y, want)
			seen[want]++
		}
	}
	if seen[true] < 20 || seen[false] < 20 {
		t.Errorf("the answers are %v", seen)
	}
}
