package profile_test

import (
	"math/rand"
	"slices"
	"testing"

	"suffrage/api"
	"suffrage/profile"
)

// P9.5

// added returns the profile to which the ballots are added, many of each at a time.
func added(cands int, kind uint8, l []api.Ballot, many int) (api.Profile, api.Errno) {
	p, e := profile.New(cands, kind)
	for _, b := range l {
		if e == api.OK {
			p, e = profile.Add(p, b, many)
		}
	}
	return p, e
}

func TestOrderOfAddingDoesNotMatter(t *testing.T) {
	sets := map[uint8][]api.Ballot{
		1: {rank(0, 1), rank(), rank(0, 1), rank(1), rank(1, 0)}, 2: {mark(0, 1), mark(), mark(1), mark(1), mark(0)}, 3: {score(10, 0), score(9, 0), score(0, 10), score(9, 0), score(0, 0)},
	}
	for kind, set := range sets {
		want, wantE := added(2, kind, set, 7)
		made, madeE := profile.Make(2, kind, set...)
		for _, perm := range perms(5) {
			var l []api.Ballot
			for _, i := range perm {
				l = append(l, set[i])
			}
			p, e := added(2, kind, l, 7)
			checkProfile(t, p, e, want, wantE, "adding", perm)
			p, e = profile.Make(2, kind, l...)
			checkProfile(t, p, e, made, madeE, "Make", perm)
		}
	}
}

// Nor does it matter whether there is room for the ballots.
func TestOrderOfAddingDoesNotMatterOfRandomBallots(t *testing.T) {
	random := rand.New(rand.NewSource(101))
	seen := map[bool]int{}
	for range 2000 {
		cands, kind := 1+random.Intn(10), uint8(1+random.Intn(3))
		var l []api.Ballot
		for range random.Intn(120) {
			l = append(l, api.Ballot{Kind: kind, Marks: randomMarks(random, cands, kind)})
		}
		many := 1 + random.Intn(15000)
		want, wantE := added(cands, kind, l, many)
		made, madeE := profile.Make(cands, kind, l...)
		random.Shuffle(len(l), func(i, j int) { l[i], l[j] = l[j], l[i] })
		p, e := added(cands, kind, l, many)
		if (e == api.OK) != (wantE == api.OK) || !profile.Same(p, want) {
			t.Errorf("in two orders: errors %d and %d, %s and %s", int(wantE), int(e), show(want), show(p))
		}
		p, e = profile.Make(cands, kind, l...)
		checkProfile(t, p, e, made, madeE, "Make", l)
		seen[wantE == api.OK]++
	}
	if seen[true] < 200 || seen[false] < 200 {
		t.Errorf("so many fit, and so many do not: %v", seen)
	}
}

// Ballots that are added one at a time are as good as ballots that are added together.
func TestAddingOneAtATime(t *testing.T) {
	p := ranks(3, row(4, 0, 1), row(2, 1))
	for _, b := range []api.Ballot{rank(), rank(0, 1), rank(1), rank(2, 1, 0)} {
		want, wantE := profile.Add(p, b, 5)
		q, e := p, api.OK
		for range 5 {
			q, e = profile.Add(q, b, 1)
		}
		checkProfile(t, q, e, want, wantE, "adding one at a time", b)
		for range 5 {
			q, e = profile.Take(q, b, 1)
		}
		checkProfile(t, q, e, p, api.OK, "taking one at a time", b)
	}
}

func TestTakeUndoesAdd(t *testing.T) {
	random := rand.New(rand.NewSource(102))
	undone := 0
	for range 10000 {
		p := randomProfile(random)
		b := api.Ballot{Kind: p.Kind, Marks: randomMarks(random, p.Cands, p.Kind)}
		many := randomMany(random)
		sum, e := profile.Add(p, b, many)
		if e != api.OK {
			continue
		}
		undone++
		back, e := profile.Take(sum, b, many)
		checkProfile(t, back, e, p, api.OK, "Take of what was added", b, " ", many)
		again, e := profile.Add(back, b, many)
		checkProfile(t, again, e, sum, api.OK, "Add of what was taken", b, " ", many)
	}
	if undone < 3000 {
		t.Errorf("%d additions are undone", undone)
	}
}

func TestMinusUndoesSum(t *testing.T) {
	random := rand.New(rand.NewSource(103))
	undone := 0
	for range 10000 {
		p := randomProfile(random)
		q := likeProfile(random, p)
		sum, e := profile.Sum(p, q)
		if e != api.OK {
			continue
		}
		undone++
		back, e := profile.Minus(sum, q)
		checkProfile(t, back, e, p, api.OK, "Minus of what was added", q)
		back, e = profile.Minus(sum, p)
		checkProfile(t, back, e, q, api.OK, "Minus of what it was added to", p)
		back, e = profile.Minus(sum, sum)
		checkProfile(t, back, e, of(p.Cands, p.Kind), api.OK, "Minus of the sum", sum)
	}
	if undone < 3000 {
		t.Errorf("%d sums are undone", undone)
	}
}

func TestSumIsCommutative(t *testing.T) {
	random := rand.New(rand.NewSource(104))
	for range 10000 {
		p := randomProfile(random)
		q := likeProfile(random, p)
		if random.Intn(10) == 0 {
			q = randomProfile(random)
		}
		if profile.Check(p) != api.OK || profile.Check(q) != api.OK {
			continue
		}
		sum, e := profile.Sum(p, q)
		other, otherE := profile.Sum(q, p)
		checkProfile(t, other, otherE, sum, e, "Sum the other way", p, " and ", q)
	}
}

// sumOf3 returns the sum of two profiles and a third, and that of the first and the other two.
func sumOf3(p, q, r api.Profile) (left, right api.Profile, leftE, rightE api.Errno) {
	left, leftE = profile.Sum(p, q)
	if leftE == api.OK {
		left, leftE = profile.Sum(left, r)
	}
	right, rightE = profile.Sum(q, r)
	if rightE == api.OK {
		right, rightE = profile.Sum(p, right)
	}
	return left, right, leftE, rightE
}

// Which of the limits a sum exceeds may depend on what is added first, but not whether it exceeds one.
func TestSumIsAssociative(t *testing.T) {
	random := rand.New(rand.NewSource(105))
	seen := map[bool]int{}
	for range 10000 {
		p := randomProfile(random)
		q, r := likeProfile(random, p), likeProfile(random, p)
		if profile.Check(p) != api.OK || profile.Check(q) != api.OK || profile.Check(r) != api.OK {
			continue
		}
		left, right, leftE, rightE := sumOf3(p, q, r)
		if !profile.Same(left, right) || (leftE == api.OK) != (rightE == api.OK) {
			t.Errorf("(%s + %s) + %s is %s, %d; the other way %s, %d", show(p), show(q), show(r), show(left), int(leftE), show(right), int(rightE))
		}
		seen[leftE == api.OK]++
	}
	if seen[true] < 1000 || seen[false] < 100 {
		t.Errorf("so many sums fit, and so many do not: %v", seen)
	}
}

// A sum is what adding each of the other's rows gives, and a difference what taking them leaves.
func TestSumAddsAndMinusTakesEachRow(t *testing.T) {
	random := rand.New(rand.NewSource(106))
	for range 5000 {
		p := randomProfile(random)
		q := likeProfile(random, p)
		sum, e := profile.Sum(p, q)
		if e != api.OK {
			continue
		}
		one, rest := p, sum
		for _, r := range q.Rows {
			b := api.Ballot{Kind: q.Kind, Marks: r.Marks}
			one, _ = profile.Add(one, b, r.Many)
			rest, _ = profile.Take(rest, b, r.Many)
		}
		checkProfile(t, one, api.OK, sum, api.OK, "adding each row", p, " and ", q)
		checkProfile(t, rest, api.OK, p, api.OK, "taking each row", sum, " and ", q)
	}
}

func TestRenamingBackRestores(t *testing.T) {
	random := rand.New(rand.NewSource(107))
	restored := 0
	for range 10000 {
		p := randomProfile(random)
		if profile.Check(p) != api.OK {
			continue
		}
		restored++
		perm := random.Perm(p.Cands)
		renamed, e := profile.Rename(p, perm)
		checkCheck(t, renamed, api.OK)
		back, f := profile.Rename(renamed, modelInverse(perm))
		checkProfile(t, back, max(e, f), p, api.OK, "renaming and back", perm)
		many, _ := profile.Many(p)
		marked, _ := profile.Marked(p)
		checkCounts(t, renamed, many, marked, api.OK)
	}
	if restored < 3000 {
		t.Errorf("%d profiles are restored", restored)
	}
}

func TestKeepDoesNotChangeTheNumberOfBallots(t *testing.T) {
	random := rand.New(rand.NewSource(108))
	for range 10000 {
		p := randomProfile(random)
		if profile.Check(p) != api.OK {
			continue
		}
		left := make([]bool, random.Intn(12))
		for c := range left {
			left[c] = random.Intn(2) > 0
		}
		want, _ := profile.Many(p)
		for _, l := range [][]bool{left, nil, slices.Repeat([]bool{true}, 10)} {
			kept, e := profile.Keep(p, l)
			checkCheck(t, kept, api.OK)
			if many, f := profile.Many(kept); e != api.OK || f != api.OK || many != want {
				t.Errorf("of %d ballots in %s, keeping %v leaves %d, errors %d and %d", want, show(p), l, many, int(e), int(f))
			}
		}
	}
}

// It does not matter whether profiles are renamed, or some candidates kept, before or after they are added.
func TestRenameAndKeepOfSums(t *testing.T) {
	random := rand.New(rand.NewSource(109))
	for range 5000 {
		p := randomProfile(random)
		q := likeProfile(random, p)
		sum, e := profile.Sum(p, q)
		if e != api.OK {
			continue
		}
		perm, left := random.Perm(p.Cands), make([]bool, p.Cands)
		for c := range left {
			left[c] = random.Intn(2) > 0
		}
		renamedP, _ := profile.Rename(p, perm)
		renamedQ, _ := profile.Rename(q, perm)
		want, wantE := profile.Rename(sum, perm)
		renamed, e := profile.Sum(renamedP, renamedQ)
		checkProfile(t, renamed, e, want, wantE, "Sum of renamed profiles", p, " and ", q)
		keptP, _ := profile.Keep(p, left)
		keptQ, _ := profile.Keep(q, left)
		want, wantE = profile.Keep(sum, left)
		kept, e := profile.Sum(keptP, keptQ)
		checkProfile(t, kept, e, want, wantE, "Sum of kept profiles", p, " and ", q)
	}
}
