package ballot_test

import (
	"fmt"
	"math"
	"math/rand"
	"slices"
	"testing"

	"suffrage/api"
	"suffrage/ballot"
)

func rank(marks ...int) api.Ballot { return api.Ballot{Kind: 1, Marks: marks} }

func mark(marks ...int) api.Ballot { return api.Ballot{Kind: 2, Marks: marks} }

func score(marks ...int) api.Ballot { return api.Ballot{Kind: 3, Marks: marks} }

// kind returns a ballot of any kind.
func kind(kind uint8, marks ...int) api.Ballot { return api.Ballot{Kind: kind, Marks: marks} }

// upTo returns the numbers from 0 to n - 1.
func upTo(n int) []int {
	l := []int{}
	for i := range n {
		l = append(l, i)
	}
	return l
}

// times returns n times the same number.
func times(n, number int) []int { return slices.Repeat([]int{number}, n) }

// lists returns all lists of up to most of the values.
func lists(values []int, most int) [][]int {
	all := [][]int{{}}
	for from := 0; len(all[from]) < most; from++ {
		for _, value := range values {
			all = append(all, append(slices.Clone(all[from]), value))
		}
	}
	return all
}

// perms returns all permutations of the numbers from 0 to n - 1.
func perms(n int) [][]int {
	return slices.DeleteFunc(lists(upTo(n), n), func(l []int) bool { return len(l) != n || !modelIsPermutation(l) })
}

// lefts returns all lists of up to most bools.
func lefts(most int) [][]bool {
	var all [][]bool
	for _, l := range lists([]int{0, 1}, most) {
		left := []bool{}
		for _, bit := range l {
			left = append(left, bit == 1)
		}
		all = append(all, left)
	}
	return all
}

// anyBallots returns ballots of each kind and of no kind, most of which are not valid.
func anyBallots() []api.Ballot {
	l := []api.Ballot{{}, {Kind: 1, Marks: []int{}}, rank(upTo(11)...), mark(upTo(11)...), score(times(11, 1)...)}
	for _, marks := range lists([]int{-1, 0, 1, 2, 9, 10, 11}, 3) {
		for _, k := range []uint8{0, 1, 2, 3, 4, 255} {
			l = append(l, kind(k, marks...))
		}
	}
	return l
}

// validBallots returns valid ballots among n candidates: all rankings and approvals, and all with scores of four sizes.
func validBallots(n int) []api.Ballot {
	var l []api.Ballot
	for _, marks := range lists(upTo(n), n) {
		l = append(l, rank(marks...), mark(marks...))
	}
	for _, marks := range lists([]int{0, 1, 9, 10}, n) {
		l = append(l, score(marks...))
	}
	return slices.DeleteFunc(l, func(b api.Ballot) bool { return !modelValid(b, n) })
}

func text(t *testing.T, b api.Ballot) string {
	t.Helper()
	s, e := ballot.Text(b)
	if e != api.OK {
		t.Fatalf("Text(%v): error %d", b, int(e))
	}
	return s
}

func read(t *testing.T, s string) api.Ballot {
	t.Helper()
	b, e := ballot.Read(s)
	if e != api.OK {
		t.Fatalf("Read(%q): error %d", s, int(e))
	}
	return b
}

// show returns the start of a text of b, which may have many marks.
func show(b api.Ballot) string {
	return fmt.Sprintf("kind %d, %d marks %v", b.Kind, len(b.Marks), b.Marks[:min(len(b.Marks), 20)])
}

// P8.1: Check

func checkCheck(t *testing.T, b api.Ballot, cands int, want api.Errno) {
	t.Helper()
	if e := ballot.Check(b, cands); e != want {
		t.Errorf("Check(%s; %d) = %d; want %d", show(b), cands, int(e), int(want))
	}
}

func TestCheckOfExamples(t *testing.T) {
	checkCheck(t, rank(1, 1), 3, api.ErrBad)
	checkCheck(t, mark(2, 0), 3, api.ErrBad)
	checkCheck(t, score(11), 1, api.ErrBad)
	checkCheck(t, rank(2, 0, 1), 3, api.OK)
	checkCheck(t, mark(0, 2), 3, api.OK)
	checkCheck(t, score(3, 0, 10), 3, api.OK)
}

func TestCheckOfCands(t *testing.T) {
	for _, cands := range []int{math.MinInt, -256, -1, 0, 11, 12, 256, 257, 1 << 32, 1<<32 + 3, math.MaxInt} {
		for _, b := range []api.Ballot{rank(), mark(0), score(1, 2, 3), score(), rank(-1), kind(0), kind(4, 0), score(times(11, 0)...), rank(upTo(11)...)} {
			checkCheck(t, b, cands, api.ErrArg)
		}
	}
	for cands := 1; cands <= 10; cands++ {
		for _, k := range []uint8{1, 2} {
			checkCheck(t, kind(k), cands, api.OK)
			checkCheck(t, api.Ballot{Kind: k, Marks: []int{}}, cands, api.OK)
			checkCheck(t, kind(k, upTo(cands)...), cands, api.OK)
			checkCheck(t, kind(k, upTo(cands+1)...), cands, api.ErrBad)
			checkCheck(t, kind(k, upTo(cands + 1)[1:]...), cands, api.ErrBad)
			for c := range cands {
				checkCheck(t, kind(k, c), cands, api.OK)
			}
			for _, c := range []int{-1, cands, cands + 1, 10, 11, -cands, 256, 256 + cands - 1, 1 << 32, -1 << 32, math.MaxInt, math.MinInt} {
				checkCheck(t, kind(k, c), cands, api.ErrBad)
				checkCheck(t, kind(k, append(upTo(cands-1), c)...), cands, api.ErrBad)
				checkCheck(t, kind(k, append([]int{c}, upTo(cands-1)...)...), cands, api.ErrBad)
			}
		}
	}
}

func TestCheckOfKinds(t *testing.T) {
	for k := range 256 {
		for n := 1; n <= 10; n++ {
			for _, marks := range [][]int{nil, {0}, upTo(n), times(n, 0)} {
				checkCheck(t, kind(uint8(k), marks...), n, modelCheck(kind(uint8(k), marks...), n))
				if k == 0 || k > 3 {
					checkCheck(t, kind(uint8(k), marks...), n, api.ErrBad)
				}
			}
		}
	}
}

func TestCheckOfEqualMarks(t *testing.T) {
	for n := 2; n <= 10; n++ {
		for i := range n {
			for j := range i {
				marks := upTo(n)
				marks[i] = marks[j]
				checkCheck(t, rank(marks...), n, api.ErrBad)
				checkCheck(t, mark(marks...), n, api.ErrBad)
				slices.Sort(marks)
				checkCheck(t, rank(marks...), n, api.ErrBad)
				checkCheck(t, mark(marks...), n, api.ErrBad)
			}
		}
	}
	checkCheck(t, rank(0, 0), 1, api.ErrBad)
	checkCheck(t, mark(0, 0), 1, api.ErrBad)
}

// Rankings have any order, approvals one.
func TestCheckOfOrder(t *testing.T) {
	for n := 2; n <= 10; n++ {
		for i := range n {
			for j := range i {
				marks := upTo(n)
				marks[i], marks[j] = marks[j], marks[i]
				checkCheck(t, rank(marks...), n, api.OK)
				checkCheck(t, mark(marks...), n, api.ErrBad)
			}
		}
	}
	checkCheck(t, mark(1, 0), 2, api.ErrBad)
	checkCheck(t, mark(0, 9), 10, api.OK)
	checkCheck(t, mark(9, 0), 10, api.ErrBad)
}

func TestCheckOfScores(t *testing.T) {
	for n := 1; n <= 10; n++ {
		for value := -2; value <= 13; value++ {
			want := api.ErrBad
			if value >= 0 && value <= 10 {
				want = api.OK
			}
			checkCheck(t, score(times(n, value)...), n, want)
			for at := range n {
				marks := times(n, 5)
				marks[at] = value
				checkCheck(t, score(marks...), n, want)
			}
		}
		for _, value := range []int{math.MinInt, -1 << 32, -256, 255, 256, 261, 1<<32 + 5, math.MaxInt} {
			checkCheck(t, score(append(times(n-1, 5), value)...), n, api.ErrBad)
		}
		for many := range 13 {
			if many != n {
				checkCheck(t, score(times(many, 0)...), n, api.ErrBad)
				checkCheck(t, score(times(many, 10)...), n, api.ErrBad)
			}
		}
		checkCheck(t, api.Ballot{Kind: 3}, n, api.ErrBad)
		checkCheck(t, api.Ballot{Kind: 3, Marks: []int{}}, n, api.ErrBad)
	}
}

// What lies behind the length of the marks is not part of the ballot.
func TestCheckIgnoresCapacity(t *testing.T) {
	marks := []int{0, 1, 1, 99, -1}
	checkCheck(t, rank(marks[:2]...), 2, api.OK)
	checkCheck(t, mark(marks[:2]...), 2, api.OK)
	checkCheck(t, score(marks[:2]...), 2, api.OK)
	checkCheck(t, rank(marks[:0]...), 2, api.OK)
}

func TestCheckOfAllSmallBallots(t *testing.T) {
	for _, b := range anyBallots() {
		for cands := -1; cands <= 12; cands++ {
			checkCheck(t, b, cands, modelCheck(b, cands))
		}
	}
}

func TestCheckOfRandomBallots(t *testing.T) {
	random := rand.New(rand.NewSource(81))
	seen := map[api.Errno]int{}
	for range 40000 {
		n := 1 + random.Intn(10)
		b := randomBallot(random, n)
		checkCheck(t, b, n, api.OK)
		b = spoilt(random, b)
		want := modelCheck(b, n)
		checkCheck(t, b, n, want)
		seen[want]++
	}
	if seen[api.OK] < 1000 || seen[api.ErrBad] < 1000 {
		t.Errorf("the ballots have the errors %v", seen)
	}
}

// P8.1: First

func checkFirst(t *testing.T, b api.Ballot, want int, wantOK bool) {
	t.Helper()
	if c, ok := ballot.First(b); c != want || ok != wantOK {
		t.Errorf("First(%s) = %d, %v; want %d, %v", show(b), c, ok, want, wantOK)
	}
}

func TestFirstOfExamples(t *testing.T) {
	checkFirst(t, rank(2, 0, 1), 2, true)
	checkFirst(t, rank(0, 1), 0, true)
	checkFirst(t, mark(0, 2), 0, false)
	checkFirst(t, score(3, 0, 10), 2, true)
}

func TestFirstOfRankingsAndApprovals(t *testing.T) {
	for _, k := range []uint8{1, 2} {
		checkFirst(t, kind(k), 0, false)
		checkFirst(t, api.Ballot{Kind: k, Marks: []int{}}, 0, false)
		for c := range 10 {
			checkFirst(t, kind(k, c), c, true)
		}
	}
	for c := range 10 {
		checkFirst(t, rank(append([]int{c}, slices.Delete(upTo(10), c, c+1)...)...), c, true)
		for d := c + 1; d < 10; d++ {
			checkFirst(t, rank(d, c), d, true)
			checkFirst(t, rank(c, d), c, true)
			checkFirst(t, mark(c, d), 0, false)
		}
	}
	for n := 2; n <= 10; n++ {
		checkFirst(t, mark(upTo(n)...), 0, false)
	}
}

func TestFirstOfScores(t *testing.T) {
	for n := 1; n <= 10; n++ {
		checkFirst(t, score(times(n, 0)...), 0, false)
		for at := range n {
			for high := 1; high <= 10; high++ {
				marks := times(n, high-1)
				marks[at] = high
				checkFirst(t, score(marks...), at, true)
				for other := range n {
					if other != at {
						tied := slices.Clone(marks)
						tied[other] = high
						checkFirst(t, score(tied...), 0, false)
						for third := range n { // a higher score undoes the tie, wherever it stands
							if third != at && third != other && high < 10 {
								above := slices.Clone(tied)
								above[third] = high + 1
								checkFirst(t, score(above...), third, true)
							}
						}
					}
				}
			}
		}
	}
}

func TestFirstOfInvalidBallots(t *testing.T) {
	for _, b := range []api.Ballot{{}, {Marks: []int{3}}, kind(4, 3), kind(255, 3), rank(3, 3), rank(3, -1), rank(3, 10), rank(10), rank(-1), mark(10), mark(-1), mark(3, 3),
		rank(3, 4, 5, 3), rank(append([]int{3}, upTo(10)...)...), rank(upTo(11)...), score(), score(11), score(3, -1), score(10, 11), score(-1), score(append(times(10, 0), 5)...),
		score(append(times(11, 0), 5)...), rank(3, math.MaxInt), mark(math.MinInt)} {
		checkFirst(t, b, 0, false)
	}
}

func TestFirstOfAnyBallots(t *testing.T) {
	for _, b := range slices.Concat(anyBallots(), validBallots(3), validBallots(4)) {
		want, wantOK := modelFirst(b)
		checkFirst(t, b, want, wantOK)
	}
	random := rand.New(rand.NewSource(82))
	found := 0
	for range 40000 {
		b := randomBallot(random, 1+random.Intn(10))
		if random.Intn(2) == 0 {
			b = spoilt(random, b)
		}
		want, wantOK := modelFirst(b)
		checkFirst(t, b, want, wantOK)
		if wantOK {
			found++
		}
	}
	if found < 5000 || found > 35000 {
		t.Errorf("%d ballots have a favorite", found)
	}
}

// P8.1: Prefers

func checkPrefers(t *testing.T, b api.Ballot, x, y int, want bool) {
	t.Helper()
	if prefers := ballot.Prefers(b, x, y); prefers != want {
		t.Errorf("Prefers(%s; %d, %d) = %v", show(b), x, y, prefers)
	}
}

func TestPrefers(t *testing.T) {
	for _, c := range []struct {
		b    api.Ballot
		x, y int
		want bool
	}{
		{rank(2, 0, 1), 2, 0, true}, {rank(2, 0, 1), 0, 2, false}, {rank(2, 0, 1), 0, 1, true}, {rank(2, 0, 1), 1, 2, false}, {rank(2, 0, 1), 2, 1, true},
		{rank(2), 2, 0, true}, {rank(2), 0, 2, false}, {rank(2), 0, 1, false}, {rank(), 0, 1, false}, {rank(2), 2, 7, true}, {rank(2), 2, 1000, true},
		{mark(0, 2), 0, 1, true}, {mark(0, 2), 2, 1, true}, {mark(0, 2), 1, 0, false}, {mark(0, 2), 0, 2, false}, {mark(0, 2), 2, 0, false}, {mark(0, 2), 1, 3, false},
		{mark(0, 2), 2, 3, true}, {mark(), 0, 1, false}, {mark(0, 2), 2, 1000, true},
		{score(3, 0, 10), 2, 0, true}, {score(3, 0, 10), 0, 2, false}, {score(3, 0, 10), 0, 1, true}, {score(3, 3, 0), 0, 1, false}, {score(3, 3, 0), 1, 0, false},
		{score(3, 0, 10), 2, 3, false}, {score(3, 0, 10), 3, 2, false}, {score(3), 0, 1, false}, {score(3), 1, 0, false}, {score(), 0, 1, false}, {score(0, 1), 1, 0, true},
		{score(3, 0, 10), 3, 4, false}, {score(3, 0, 10), 1000, 0, false}, {score(3, 0, 10), 0, 1000, false},
	} {
		checkPrefers(t, c.b, c.x, c.y, c.want)
	}
}

// No candidate is preferred to itself.
func TestPrefersOfEqualCandidates(t *testing.T) {
	for _, b := range append(anyBallots(), validBallots(3)...) {
		for _, x := range []int{-1, 0, 1, 2, 3, 9, 10, 11, math.MaxInt, math.MinInt} {
			checkPrefers(t, b, x, x, false)
		}
	}
	checkPrefers(t, rank(1, 1), 1, 1, false)
	checkPrefers(t, rank(1, 0, 1), 1, 1, false)
	checkPrefers(t, mark(1, 1), 1, 1, false)
}

func TestPrefersOfNegativeNumbers(t *testing.T) {
	for _, x := range []int{-1, -2, -10, math.MinInt} {
		for _, b := range []api.Ballot{rank(x, 0), rank(x), rank(0, x), mark(x, 0), mark(x), mark(0), rank(0), score(1, 2), score(), rank()} {
			for _, y := range []int{0, 1, 9, 10, -1, -3, math.MaxInt} {
				checkPrefers(t, b, x, y, false)
				checkPrefers(t, b, y, x, false)
			}
		}
	}
}

// A number that is no candidate of a valid ballot is a mark like others.
func TestPrefersOfGreatNumbers(t *testing.T) {
	for _, x := range []int{10, 11, 255, 256, 1 << 32, math.MaxInt} {
		checkPrefers(t, rank(x, 0), x, 0, true)
		checkPrefers(t, rank(x, 0), 0, x, false)
		checkPrefers(t, rank(0, x), x, 0, false)
		checkPrefers(t, rank(0, x), 0, x, true)
		checkPrefers(t, rank(0), 0, x, true)
		checkPrefers(t, rank(0), x, 0, false)
		checkPrefers(t, mark(x), x, 0, true)
		checkPrefers(t, mark(0), 0, x, true)
		checkPrefers(t, mark(0, x), 0, x, false)
		checkPrefers(t, score(1, 0), 0, x, false)
		checkPrefers(t, score(1, 0), x, 1, false)
	}
	checkPrefers(t, score(append(times(20, 0), 1)...), 20, 3, true)
	checkPrefers(t, score(append(times(20, 0), 1)...), 20, 21, false)
}

// The first occurrence of a mark counts.
func TestPrefersOfMarksThatOccurTwice(t *testing.T) {
	checkPrefers(t, rank(0, 1, 0), 0, 1, true)
	checkPrefers(t, rank(0, 1, 0), 1, 0, false)
	checkPrefers(t, rank(0, 1, 1, 0), 0, 1, true)
	checkPrefers(t, rank(0, 1, 1, 0), 1, 0, false)
	checkPrefers(t, rank(0, 0, 1), 0, 1, true)
	checkPrefers(t, rank(0, 0, 1), 1, 0, false)
	checkPrefers(t, rank(1, 0, 0), 0, 1, false)
	checkPrefers(t, rank(1, 0, 0), 1, 0, true)
	checkPrefers(t, rank(0, 0), 0, 1, true)
	checkPrefers(t, rank(0, 0), 1, 0, false)
	checkPrefers(t, mark(0, 0), 0, 1, true)
	checkPrefers(t, mark(1, 0, 1), 1, 0, false)
	checkPrefers(t, mark(1, 0, 1), 0, 1, false)
}

func TestPrefersOfInvalidBallots(t *testing.T) {
	for _, marks := range lists([]int{-1, 0, 1, 12}, 3) {
		for x := range 3 {
			for y := range 3 {
				for k := range 256 {
					if k == 0 || k > 3 {
						checkPrefers(t, kind(uint8(k), marks...), x, y, false)
					}
				}
			}
		}
	}
	checkPrefers(t, mark(2, 0), 2, 1, true)
	checkPrefers(t, mark(2, 0, 5), 0, 1, true)
	checkPrefers(t, rank(-1, 1), 1, 0, true)
	checkPrefers(t, score(-3, -2), 1, 0, true)
	checkPrefers(t, score(-3, -2), 0, 1, false)
	checkPrefers(t, score(12, 11), 0, 1, true)
	checkPrefers(t, score(math.MinInt, math.MaxInt), 1, 0, true)
	checkPrefers(t, score(math.MinInt, math.MaxInt), 0, 1, false)
}

func TestPrefersOfAnyBallots(t *testing.T) {
	numbers := []int{-1, 0, 1, 2, 3, 9, 10, 11, 12, math.MaxInt, math.MinInt}
	for _, b := range slices.Concat(anyBallots(), validBallots(3), validBallots(4)) {
		for _, x := range numbers {
			for _, y := range numbers {
				checkPrefers(t, b, x, y, modelPrefers(b, x, y))
			}
		}
	}
	random := rand.New(rand.NewSource(83))
	for range 20000 {
		b := spoilt(random, randomBallot(random, 1+random.Intn(10)))
		x, y := random.Intn(14)-1, random.Intn(14)-1
		checkPrefers(t, b, x, y, modelPrefers(b, x, y))
	}
}

// What lies behind the length of the marks is not part of the ballot.
func TestPrefersIgnoresCapacity(t *testing.T) {
	marks := []int{2, 1, 0}
	checkPrefers(t, rank(marks[:1]...), 1, 0, false)
	checkPrefers(t, mark(marks[:1]...), 1, 3, false)
	checkPrefers(t, mark(marks[:1]...), 2, 1, true)
	checkPrefers(t, score(marks[:1]...), 0, 1, false)
}

// P8.2: Keep

func checkKeep(t *testing.T, b api.Ballot, left []bool, want api.Ballot) {
	t.Helper()
	if kept := ballot.Keep(b, left); !modelSame(kept, want) {
		t.Errorf("Keep(%s; %v) = %s; want %s", show(b), left, show(kept), show(want))
	}
}

func TestKeepOfExamples(t *testing.T) {
	kept := ballot.Keep(read(t, "rank 2 0 1"), []bool{true, true})
	if s := text(t, kept); s != "rank 0 1" {
		t.Errorf("what is kept is %q", s)
	}
	checkFirst(t, kept, 0, true)
}

func TestKeep(t *testing.T) {
	yes, no := true, false
	for _, c := range []struct {
		b    api.Ballot
		left []bool
		want api.Ballot
	}{
		{rank(2, 0, 1), []bool{yes, no, yes}, rank(2, 0)}, {rank(2, 0, 1), []bool{yes, yes, yes}, rank(2, 0, 1)}, {rank(2, 0, 1), []bool{no, no, no}, rank()},
		{rank(2, 0, 1), nil, rank()}, {rank(2, 0, 1), []bool{}, rank()}, {rank(2, 0, 1), []bool{yes}, rank(0)}, {rank(2, 0, 1), []bool{no, no, no, yes}, rank()},
		{rank(2, 0, 1), []bool{no, no, yes, yes, yes}, rank(2)}, {rank(), []bool{yes}, rank()}, {rank(), nil, rank()},
		{mark(0, 2, 3), []bool{yes, yes, no, yes}, mark(0, 3)}, {mark(0, 2, 3), nil, mark()}, {mark(0, 2, 3), []bool{yes}, mark(0)}, {mark(), []bool{yes}, mark()},
		{mark(0, 2), []bool{yes, yes, yes, yes}, mark(0, 2)},
		{score(3, 0, 10), []bool{yes, yes, no}, score(3, 0, 0)}, {score(3, 0, 10), []bool{no, yes, yes}, score(0, 0, 10)}, {score(3, 0, 10), nil, score(0, 0, 0)},
		{score(3, 0, 10), []bool{yes}, score(3, 0, 0)}, {score(3, 0, 10), []bool{no, no, yes, yes}, score(0, 0, 10)}, {score(), []bool{yes}, score()},
		{score(3, 0, 10), []bool{yes, yes, yes, no}, score(3, 0, 10)}, {score(3, 0, 10), []bool{no, no, no, yes}, score(0, 0, 0)},
		{kind(0, 2, 0, 1), nil, kind(0, 2, 0, 1)}, {kind(4, 2, 0, 1), []bool{no, yes}, kind(4, 2, 0, 1)}, {kind(255, -1, 99), []bool{yes}, kind(255, -1, 99)}, {kind(0), nil, kind(0)},
	} {
		checkKeep(t, c.b, c.left, c.want)
	}
}

// Ballots need not be valid: marks keep their order and their number, and those that are no candidates are not left.
func TestKeepOfInvalidBallots(t *testing.T) {
	left := []bool{true, true, false, true}
	for _, k := range []uint8{1, 2} {
		checkKeep(t, kind(k, 3, 1, 1, 2, 3), left, kind(k, 3, 1, 1, 3))
		checkKeep(t, kind(k, -1, 1, 4, 5, math.MaxInt, math.MinInt, 0, -4), left, kind(k, 1, 0))
		checkKeep(t, kind(k, 256, 257, 1<<32, 1<<32+1, -1<<32), left, kind(k))
	}
	checkKeep(t, score(-5, 99, 7, math.MinInt, 8), left, score(-5, 99, 0, math.MinInt, 0))
	checkKeep(t, rank(15, 3), slices.Repeat([]bool{true}, 16), rank(15, 3))
	checkKeep(t, rank(15, 3), slices.Repeat([]bool{true}, 15), rank(3))
	checkKeep(t, score(times(15, 4)...), slices.Repeat([]bool{true}, 14), score(append(times(14, 4), 0)...))
	for k := range 256 {
		b := kind(uint8(k), 2, 9, 2, -1, 0)
		checkKeep(t, b, left, modelKeep(b, left))
	}
}

// What lies behind the length of the list is not left.
func TestKeepIgnoresCapacity(t *testing.T) {
	left := []bool{true, true, true}[:1]
	checkKeep(t, rank(2, 1, 0), left, rank(0))
	checkKeep(t, mark(0, 1, 2), left, mark(0))
	checkKeep(t, score(3, 4, 5), left, score(3, 0, 0))
	marks := []int{2, 1, 0}
	checkKeep(t, rank(marks[:1]...), []bool{true, true, true}, rank(2))
}

func TestKeepOfAnyBallots(t *testing.T) {
	for _, b := range slices.Concat(anyBallots(), validBallots(3), validBallots(4)) {
		for _, left := range lefts(5) {
			checkKeep(t, b, left, modelKeep(b, left))
		}
		checkKeep(t, b, nil, modelKeep(b, nil))
	}
}

func TestKeepOfRandomBallots(t *testing.T) {
	random := rand.New(rand.NewSource(84))
	for range 20000 {
		b := spoilt(random, randomBallot(random, 1+random.Intn(10)))
		left := make([]bool, random.Intn(13))
		for c := range left {
			left[c] = random.Intn(3) > 0
		}
		checkKeep(t, b, left, modelKeep(b, left))
	}
}

// Among the candidates that are left, what is kept of a valid ballot is valid again.
func TestKeepOfValidBallotsIsValid(t *testing.T) {
	for n := 1; n <= 4; n++ {
		for _, b := range validBallots(n) {
			for _, left := range lefts(n + 1) {
				checkCheck(t, ballot.Keep(b, left), n, api.OK)
			}
		}
	}
}

// P8.2: Rename

func checkRename(t *testing.T, b api.Ballot, perm []int, want api.Ballot, wantE api.Errno) {
	t.Helper()
	if renamed, e := ballot.Rename(b, perm); e != wantE || !modelSame(renamed, want) {
		t.Errorf("Rename(%s; %v) = %s, %d; want %s, %d", show(b), perm[:min(len(perm), 20)], show(renamed), int(e), show(want), int(wantE))
	}
}

func TestRename(t *testing.T) {
	perm := []int{2, 0, 1, 3}
	checkRename(t, rank(0, 1, 2, 3), perm, rank(2, 0, 1, 3), api.OK)
	checkRename(t, rank(2, 0), perm, rank(1, 2), api.OK)
	checkRename(t, rank(), perm, rank(), api.OK)
	checkRename(t, mark(0, 1), perm, mark(0, 2), api.OK)
	checkRename(t, mark(0, 2, 3), perm, mark(1, 2, 3), api.OK)
	checkRename(t, mark(0), perm, mark(2), api.OK)
	checkRename(t, mark(), perm, mark(), api.OK)
	checkRename(t, score(3, 4, 5, 6), perm, score(4, 5, 3, 6), api.OK)
	checkRename(t, score(10, 0, 0, 0), perm, score(0, 0, 10, 0), api.OK)
	ten := []int{9, 8, 7, 6, 5, 4, 3, 2, 1, 0}
	checkRename(t, rank(0, 9, 3), ten, rank(9, 0, 6), api.OK)
	checkRename(t, mark(0, 3, 9), ten, mark(0, 6, 9), api.OK)
	checkRename(t, score(0, 1, 2, 3, 4, 5, 6, 7, 8, 10), ten, score(10, 8, 7, 6, 5, 4, 3, 2, 1, 0), api.OK)
	checkRename(t, rank(0), []int{0}, rank(0), api.OK)
	checkRename(t, mark(0), []int{0}, mark(0), api.OK)
	checkRename(t, score(7), []int{0}, score(7), api.OK)
}

func TestRenameByNoPermutation(t *testing.T) {
	wrong := [][]int{nil, {}, {1}, {-1}, {0, 0}, {1, 1}, {0, 2}, {1, 2}, {-1, 0}, {0, 1, 1}, {0, 1, 3}, {2, 2, 2}, {0, 1, 2, -1}, upTo(11), upTo(12), upTo(300),
		append(upTo(9), 8), append(upTo(9), 10), append([]int{-1}, upTo(9)...), {256, 257, 258}, {0, 1, 1 << 32}, {math.MaxInt}, {math.MinInt}, {0, math.MaxInt}, {math.MinInt, 1},
		times(10, 0), times(11, 0), {256}, {-256}, {1<<32 + 1, 0}}
	for _, perm := range wrong {
		for _, b := range []api.Ballot{rank(), mark(), score(), rank(0), mark(0), score(1, 2), score(1, 2, 3), score(times(10, 1)...), score(times(11, 1)...), kind(0), kind(4, 7), rank(3, 3),
			score(times(12, 1)...), rank(upTo(11)...)} {
			checkRename(t, b, perm, api.Ballot{}, api.ErrArg)
		}
	}
}

func TestRenameOfInvalidBallots(t *testing.T) {
	for n := 1; n <= 10; n++ {
		perm := upTo(n)
		slices.Reverse(perm)
		for _, b := range []api.Ballot{{}, kind(0, 0), kind(4, 0), kind(255), rank(n), rank(-1), rank(0, 0), mark(n), mark(-1), mark(0, 0), rank(upTo(n + 1)...), mark(upTo(n + 1)...),
			score(), score(times(n-1, 1)...), score(times(n+1, 1)...), score(append(times(n-1, 1), 11)...), score(append(times(n-1, 1), -1)...), rank(10), rank(math.MaxInt),
			mark(math.MinInt), rank(256)} {
			checkRename(t, b, perm, api.Ballot{}, api.ErrBad)
		}
		if n > 1 {
			checkRename(t, mark(1, 0), perm, api.Ballot{}, api.ErrBad)
		}
		checkRename(t, rank(upTo(n)...), perm, rank(perm...), api.OK)
		checkRename(t, mark(upTo(n)...), perm, mark(upTo(n)...), api.OK)
	}
}

// What lies behind the length of a list is not part of it.
func TestRenameIgnoresCapacity(t *testing.T) {
	perm := []int{1, 0, 0, 7}[:2]
	checkRename(t, rank(1, 0), perm, rank(0, 1), api.OK)
	checkRename(t, score(3, 4), perm, score(4, 3), api.OK)
	checkRename(t, rank(1, 0), []int{1, 0}[:1], api.Ballot{}, api.ErrArg)
	checkRename(t, score([]int{3, 4}[:1]...), perm, api.Ballot{}, api.ErrBad)
}

func TestRenameOfAnyBallots(t *testing.T) {
	ballots := slices.Concat(anyBallots(), validBallots(2), validBallots(3))
	for _, perm := range lists([]int{-1, 0, 1, 2, 3}, 3) {
		for _, b := range ballots {
			want, wantE := modelRename(b, perm)
			checkRename(t, b, perm, want, wantE)
		}
	}
	for _, perm := range perms(4) {
		for _, b := range validBallots(4) {
			want, wantE := modelRename(b, perm)
			checkRename(t, b, perm, want, wantE)
		}
	}
}

func TestRenameOfRandomBallots(t *testing.T) {
	random := rand.New(rand.NewSource(85))
	seen := map[api.Errno]int{}
	for range 40000 {
		n := 1 + random.Intn(10)
		b, perm := randomBallot(random, n), random.Perm(n)
		if random.Intn(2) == 0 {
			b = spoilt(random, b)
		}
		if random.Intn(3) == 0 {
			perm[random.Intn(n)] = random.Intn(n+2) - 1
		}
		want, wantE := modelRename(b, perm)
		checkRename(t, b, perm, want, wantE)
		seen[wantE]++
	}
	if seen[api.OK] < 1000 || seen[api.ErrArg] < 1000 || seen[api.ErrBad] < 1000 {
		t.Errorf("the renamings have the errors %v", seen)
	}
}

// P8.4: Keep and Rename

// keepsTwice reports whether keeping a and then b of a ballot is keeping those that are in both.
func keepsTwice(x api.Ballot, a, b []bool) bool {
	both := make([]bool, min(len(a), len(b)))
	for c := range both {
		both[c] = a[c] && b[c]
	}
	return modelSame(ballot.Keep(ballot.Keep(x, a), b), ballot.Keep(x, both))
}

func TestKeepingTwiceIsKeepingTheIntersection(t *testing.T) {
	for _, x := range append(anyBallots(), validBallots(3)...) {
		for _, a := range lefts(3) {
			for _, b := range lefts(3) {
				if !keepsTwice(x, a, b) {
					t.Fatalf("keeping %v and then %v of %s", a, b, show(x))
				}
			}
		}
	}
	random := rand.New(rand.NewSource(86))
	for range 20000 {
		x := spoilt(random, randomBallot(random, 1+random.Intn(10)))
		a, b := make([]bool, random.Intn(12)), make([]bool, random.Intn(12))
		for c := range a {
			a[c] = random.Intn(4) > 0
		}
		for c := range b {
			b[c] = random.Intn(4) > 0
		}
		if !keepsTwice(x, a, b) {
			t.Errorf("keeping %v and then %v of %s", a, b, show(x))
		}
	}
}

func TestKeepDoesNotChangePreferences(t *testing.T) {
	for _, b := range slices.Concat(anyBallots(), validBallots(3), validBallots(4)) {
		for _, left := range lefts(4) {
			kept := ballot.Keep(b, left)
			for x := range left {
				for y := range left {
					if left[x] && left[y] && ballot.Prefers(kept, x, y) != ballot.Prefers(b, x, y) {
						t.Errorf("keeping %v of %s changes which of %d and %d is preferred", left, show(b), x, y)
					}
				}
			}
		}
	}
}

func checkRenameBack(t *testing.T, b api.Ballot, perm []int) {
	t.Helper()
	renamed, e := ballot.Rename(b, perm)
	back, f := ballot.Rename(renamed, modelInverse(perm))
	if e != api.OK || f != api.OK || !modelSame(back, b) {
		t.Errorf("renaming %s by %v and back gives %s, %d, %d", show(b), perm, show(back), int(e), int(f))
	}
}

func TestRenamingBackRestores(t *testing.T) {
	for n := 1; n <= 4; n++ {
		for _, perm := range perms(n) {
			for _, b := range validBallots(n) {
				checkRenameBack(t, b, perm)
			}
		}
	}
	random := rand.New(rand.NewSource(87))
	for range 20000 {
		n := 1 + random.Intn(10)
		checkRenameBack(t, randomBallot(random, n), random.Perm(n))
	}
}

// Renaming changes names and nothing else: the renamed candidates are preferred as before, and a favorite stays one.
func TestRenameKeepsPreferences(t *testing.T) {
	for n := 1; n <= 4; n++ {
		for _, perm := range perms(n) {
			for _, b := range validBallots(n) {
				renamed, _ := ballot.Rename(b, perm)
				checkCheck(t, renamed, n, api.OK)
				for x := range n {
					for y := range n {
						checkPrefers(t, renamed, perm[x], perm[y], ballot.Prefers(b, x, y))
					}
				}
				want, ok := ballot.First(b)
				if ok {
					want = perm[want]
				}
				checkFirst(t, renamed, want, ok)
			}
		}
	}
}
