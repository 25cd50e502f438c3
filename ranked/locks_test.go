package ranked_test

import (
	"math/rand"
	"slices"
	"testing"

	"suffrage/api"
)

// P14.1: Lock

// lockedOf returns the links, of which those at the given places are left out.
func lockedOf(links []api.Link, without ...int) []api.Link {
	var l []api.Link
	for i, k := range links {
		if !slices.Contains(without, i) {
			l = append(l, k)
		}
	}
	return l
}

// checkBoth asserts that these are all links of a matrix, in order, and that all but some are locked.
func checkBoth(t *testing.T, links []api.Link, lot []int, without ...int) {
	t.Helper()
	checkOrder(t, linking(links...), lot, links...)
	checkLock(t, linking(links...), lot, lockedOf(links, without...)...)
}

// Of a cycle of three, the link that comes last in the order is not locked, whichever it is.
func TestCyclesOfThree(t *testing.T) {
	for _, lot := range lots(3) {
		checkBoth(t, []api.Link{link(0, 1, 9, 9), link(1, 2, 8, 8), link(2, 0, 7, 7)}, lot, 2)
		checkBoth(t, []api.Link{link(0, 1, 9, 9), link(2, 0, 8, 8), link(1, 2, 7, 7)}, lot, 2)
		checkBoth(t, []api.Link{link(1, 2, 9, 9), link(2, 0, 8, 8), link(0, 1, 7, 7)}, lot, 2)
		checkBoth(t, []api.Link{link(1, 0, 3, 9), link(2, 1, 3, 8), link(0, 2, 3, 7)}, lot, 2)
		checkBoth(t, []api.Link{link(2, 1, 1000000, 1000000), link(0, 2, 999998, 999999), link(1, 0, 999996, 999998)}, lot, 2)
	}
}

// In a ring of all candidates, each link is locked but the weakest.
func TestRings(t *testing.T) {
	for cands := 3; cands <= 10; cands++ {
		for weakest := range cands {
			margins := []int{6, 9, 14, 8, 17, 5, 19, 16, 18, 7}[:cands]
			margins = append(slices.Clone(margins[:weakest]), append([]int{2}, margins[weakest+1:]...)...)
			for _, lot := range [][]int{upTo(cands), downFrom(cands)} {
				l := ordered(ring(margins...), lot)
				if len(l) != cands || l[cands-1] != link(weakest, (weakest+1)%cands, 2, 2) {
					t.Fatalf("the links are %v", l)
				}
				checkLock(t, ring(margins...), lot, l[:cands-1]...)
			}
		}
	}
}

// In a ring of equal links, the lot says which one is not locked: the one from the last candidate in the lot.
func TestTheLotSaysWhichLinkIsNotLocked(t *testing.T) {
	for _, lot := range lots(3) {
		var want []api.Link
		for _, c := range lot {
			want = append(want, link(c, (c+1)%3, 4, 4))
		}
		checkBoth(t, want, lot, 2)
	}
	for _, lot := range lots(5) {
		var want []api.Link
		for _, c := range lot {
			want = append(want, link(c, (c+1)%5, 1, 1))
		}
		checkBoth(t, want, lot, 4)
	}
	for cands := 3; cands <= 10; cands++ {
		for last := range cands {
			lot := append(others(cands, last), last)
			l := locked(ring(slices.Repeat([]int{3}, cands)...), lot)
			if len(l) != cands-1 || slices.ContainsFunc(l, func(k api.Link) bool { return k.From == last }) {
				t.Errorf("lot %v: the locked links are %v", lot, l)
			}
		}
	}
}

// Of equal links from 0 and from 4, those from the one that comes first in the lot are locked: of a cycle by way of 1, the other one is not. The link from 0 to 2, which is in no cycle, is locked in any case.
func TestTheLotSaysFromWhomALinkIsLocked(t *testing.T) {
	m := linking(link(0, 1, 5, 5), link(0, 2, 5, 5), link(1, 4, 6, 6), link(4, 0, 5, 5))
	checkLock(t, m, []int{4, 0, 1, 2, 3}, link(1, 4, 6, 6), link(4, 0, 5, 5), link(0, 2, 5, 5))
	checkLock(t, m, []int{0, 1, 2, 3, 4}, link(1, 4, 6, 6), link(0, 1, 5, 5), link(0, 2, 5, 5))
	checkLock(t, m, []int{0, 2, 1, 3, 4}, link(1, 4, 6, 6), link(0, 2, 5, 5), link(0, 1, 5, 5))
}

// What is not locked depends on paths of two links and more, up to as many as there are other candidates.
func TestPathsOfManyLinks(t *testing.T) {
	for length := 2; length <= 9; length++ {
		for _, direction := range []int{1, -1} {
			// A path from the first to the last, and a weaker link back.
			nodes := upTo(length + 1)
			if direction < 0 {
				nodes = downFrom(length + 1)
			}
			var l []api.Link
			for i := range length {
				l = append(l, link(nodes[i], nodes[i+1], 50-i, 50-i))
			}
			l = append(l, link(nodes[length], nodes[0], 3, 3))
			for _, lot := range [][]int{upTo(10), downFrom(10)} {
				checkBoth(t, l, lot, length)
				// Without one of the links of the path, the link back is locked.
				for gap := range length {
					less := slices.Delete(slices.Clone(l), gap, gap+1)
					checkBoth(t, less, lot)
				}
			}
			// A link back that comes before the last link of the path is locked, and that one is not.
			early := slices.Clone(l)
			early[length] = link(nodes[length], nodes[0], 51-length, 60)
			early[length-1], early[length] = early[length], early[length-1]
			checkBoth(t, early, upTo(10), length)
		}
	}
}

// A link that would close a cycle but for one that is not locked itself is locked.
func TestLinksThatAreNotLockedCloseNothing(t *testing.T) {
	for _, lot := range lots(4) {
		// 2 to 0 is not locked, so 3 to 2 with 0 to 3 is no cycle; by way of 2 to 0 it would be one.
		checkBoth(t, []api.Link{link(0, 1, 9, 9), link(1, 2, 8, 8), link(2, 0, 7, 7), link(3, 2, 6, 6), link(0, 3, 5, 5)}, lot, 2)
		// 0 to 3 and 3 to 2: with 2 to 0 they are a cycle; it is not locked because of 0, 1 and 2.
		checkBoth(t, []api.Link{link(0, 1, 9, 9), link(1, 2, 8, 8), link(2, 0, 7, 7), link(0, 3, 6, 6), link(3, 2, 5, 5)}, lot, 2)
		// Two cycles with a link in common, which is not locked: all the others are.
		checkBoth(t, []api.Link{link(0, 1, 9, 9), link(1, 3, 8, 8), link(0, 2, 7, 7), link(3, 0, 6, 6), link(2, 3, 5, 5)}, lot, 3)
		// The link in common is locked early: of each cycle the last one is not.
		checkBoth(t, []api.Link{link(3, 0, 9, 9), link(0, 1, 8, 8), link(0, 2, 7, 7), link(2, 3, 6, 6), link(1, 3, 5, 5)}, lot, 3, 4)
	}
	// 2 to 0 is not locked; by way of it, 0 to 4 and 4 to 2 would close a cycle.
	l := []api.Link{link(0, 1, 9, 9), link(1, 2, 8, 8), link(2, 0, 7, 7), link(2, 3, 6, 6), link(3, 4, 5, 5), link(4, 0, 4, 4), link(0, 3, 3, 3), link(4, 1, 2, 2)}
	for _, lot := range [][]int{upTo(5), downFrom(5)} {
		checkBoth(t, l, lot, 2, 5, 7)
	}
}

// A path of one locked link never keeps another one from being locked: there is no link both ways.
func TestThereIsNoLinkBothWays(t *testing.T) {
	random := rand.New(rand.NewSource(302))
	notLocked := 0
	for range 2000 {
		cands := 2 + random.Intn(9)
		m, lot := randomMatrix(random, cands), random.Perm(cands)
		order, locks := ordered(m, lot), locked(m, lot)
		for _, k := range order {
			back := func(o api.Link) bool { return o.From == k.To && o.To == k.From }
			if slices.ContainsFunc(order, back) {
				t.Fatalf("the links of %v are %v", m, order)
			}
		}
		notLocked += len(order) - len(locks)
	}
	if notLocked < 2000 {
		t.Errorf("%d links are not locked", notLocked)
	}
}

// groups returns the links of groups of so many candidates: those to all in later groups, which have the greatest margins; those to the next one in a group of three and more; and those from the last one in such a group to the first, which have the least margins.
func groups(many ...int) (ahead, inside, back []api.Link, cands int) {
	for g, n := range many {
		for y := cands; y < cands+n; y++ {
			for x := range cands {
				ahead = append(ahead, link(x, y, 90, 90))
			}
			if n > 2 && y < cands+n-1 {
				inside = append(inside, link(y, y+1, 80-g, 80))
			}
		}
		if n > 2 {
			back = append(back, link(cands+n-1, cands, 20-g, 20))
		}
		cands += n
	}
	return ahead, inside, back, cands
}

// Groups behind each other: of each the ring is broken at its weakest link, whatever leads ahead.
func TestGroups(t *testing.T) {
	random := rand.New(rand.NewSource(303))
	for _, many := range [][]int{{1, 3}, {3, 1}, {3, 3}, {3, 4, 3}, {1, 3, 3, 3}, {1, 1, 8}, {4, 1, 5}, {3, 1, 1, 5}, {5, 5}, {9, 1}, {1, 9}, {2, 1}, {2, 2, 2}, {2, 8}, {1, 2, 1}, {3, 3, 3, 1}, {7, 3}, {10}} {
		ahead, inside, back, cands := groups(many...)
		for range 10 {
			perm, lot := random.Perm(cands), random.Perm(cands)
			m := modelRenameMatrix(linking(slices.Concat(ahead, inside, back)...), perm)
			order, locks := ordered(m, lot), locked(m, lot)
			if len(order) != len(ahead)+len(inside)+len(back) || !slices.Equal(order[len(order)-len(back):], modelRenameLinks(back, perm)) || !slices.Equal(locks, order[:len(order)-len(back)]) {
				t.Errorf("the links of %v, lot %v, are %v, and the locked ones %v", m, lot, order, locks)
			}
		}
	}
}

// The cycle of all: a ladder with the strongest link from the last to the first.
func TestCyclesOfAll(t *testing.T) {
	for cands := 3; cands <= 10; cands++ {
		m := with(with(ladder(cands, 3), 0, cands-1, 0), cands-1, 0, 5)
		for _, lot := range [][]int{upTo(cands), downFrom(cands)} {
			l := locked(m, lot)
			if l[0] != link(cands-1, 0, 5, 5) {
				t.Errorf("the locked links of %v are %v", m, l)
			}
			checkModel(t, m, cands, lot)
		}
		// The last candidate leads to 0, and by way of it to all others, so no link leads to it.
		var want []api.Link
		for x := range cands {
			for y := x + 1; y < cands-1; y++ {
				want = append(want, link(x, y, 3, 3))
			}
		}
		checkLock(t, m, upTo(cands), append([]api.Link{link(cands-1, 0, 5, 5)}, want...)...)
	}
}

// Matrices of published elections.
func TestPublishedLinks(t *testing.T) {
	for _, lot := range lots(5) {
		checkBoth(t, []api.Link{link(1, 3, 21, 33), link(4, 3, 17, 31), link(0, 3, 15, 30), link(2, 1, 13, 29), link(3, 2, 11, 28), link(4, 1, 9, 27), link(0, 2, 7, 26), link(1, 0, 5, 25), link(2, 4, 3, 24), link(4, 0, 1, 23)}, lot, 4, 7, 9)
	}
	for _, lot := range lots(4) {
		checkBoth(t, []api.Link{link(1, 3, 11, 19), link(0, 1, 9, 18), link(3, 0, 7, 17), link(1, 2, 5, 16), link(2, 3, 3, 15), link(0, 2, 1, 14)}, lot, 2)
	}
}

// The model

// linked returns all matrices in which two candidates are level, or one has a link to the other, of one of the margins.
func linked(cands int, margins ...int) []api.Pairs {
	all := []api.Pairs{{}}
	for x := range cands {
		for y := range x {
			for _, m := range all {
				for _, n := range margins {
					all = append(all, with(m, x, y, n), with(m, y, x, n))
				}
			}
		}
	}
	return all
}

// weighted returns m with each entry multiplied by a number up to most.
func weighted(random *rand.Rand, m api.Pairs, most int) api.Pairs {
	for x := range m {
		for y := range m {
			m[x][y] *= 1 + random.Intn(most)
		}
	}
	return m
}

func TestAllLinksHaveTheModelsLocks(t *testing.T) {
	random := rand.New(rand.NewSource(304))
	notLocked := map[int]int{}
	for i, all := range [][]api.Pairs{linked(1, 1), linked(2, 1, 2, 3), linked(3, 1, 2, 3, 4), linked(4, 1, 2), linked(5, 1)} {
		cands := i + 1
		for _, m := range all {
			if cands == 5 {
				m = weighted(random, m, 4)
			}
			order, locks, e := checkModel(t, m, cands, random.Perm(cands))
			if e != api.OK {
				t.Fatal(m, int(e))
			}
			notLocked[len(order)-len(locks)]++
		}
	}
	if notLocked[0] < 10000 || notLocked[1] < 10000 || notLocked[2] < 5000 || notLocked[3] < 1000 {
		t.Errorf("so many links are not locked: %v", notLocked)
	}
}

func TestThreeCandidatesByAllLots(t *testing.T) {
	for _, m := range linked(3, 1, 2) {
		for _, lot := range lots(3) {
			checkModel(t, m, 3, lot)
		}
	}
}

func TestRandomMatricesHaveTheModelsLinks(t *testing.T) {
	random := rand.New(rand.NewSource(305))
	wrong, many, notLocked := map[api.Errno]int{}, 0, 0
	for range 5000 {
		cands := 1 + random.Intn(10)
		m, lot := randomMatrix(random, cands), random.Perm(cands)
		if random.Intn(8) == 0 {
			m = spoiltMatrix(random, m)
		}
		if random.Intn(12) == 0 {
			lot = spoiltLot(random, lot)
		}
		if random.Intn(12) == 0 {
			cands = random.Intn(14) - 1
		}
		order, locks, e := checkModel(t, m, cands, lot)
		wrong[e]++
		if len(order) > 20 {
			many++
		}
		notLocked += len(order) - len(locks)
	}
	if wrong[api.ErrArg] < 400 || wrong[api.ErrBad] < 300 || many < 400 || notLocked < 3000 {
		t.Errorf("the matrices have the errors %v; %d have more than 20 links, and %d links are not locked", wrong, many, notLocked)
	}
}
