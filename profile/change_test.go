package profile_test

import (
	"fmt"
	"math"
	"math/rand"
	"slices"
	"testing"

	"suffrage/api"
	"suffrage/profile"
)

// P9.2: Add and Take

func checkAdd(t *testing.T, p api.Profile, b api.Ballot, many int, want api.Profile, wantE api.Errno) {
	t.Helper()
	q, e := profile.Add(p, b, many)
	checkProfile(t, q, e, want, wantE, "Add", b, " ", many, " to ", p)
}

func checkTake(t *testing.T, p api.Profile, b api.Ballot, many int, want api.Profile, wantE api.Errno) {
	t.Helper()
	q, e := profile.Take(p, b, many)
	checkProfile(t, q, e, want, wantE, "Take", b, " ", many, " from ", p)
}

// checkNoChange checks that both Add and Take of a ballot fail.
func checkNoChange(t *testing.T, p api.Profile, b api.Ballot, many int, want api.Errno) {
	t.Helper()
	checkAdd(t, p, b, many, api.Profile{}, want)
	checkTake(t, p, b, many, api.Profile{}, want)
}

func TestExamples(t *testing.T) {
	p, e := profile.New(2, 1)
	for _, c := range []struct {
		b    api.Ballot
		many int
	}{{rank(0, 1), 3}, {rank(1), 2}, {rank(0, 1), 1}} {
		if e == api.OK {
			p, e = profile.Add(p, c.b, c.many)
		}
	}
	checkProfile(t, p, e, ranks(2, row(4, 0, 1), row(2, 1)), api.OK, "adding")
	q, e := profile.Make(2, 1, rank(0, 1), rank(0, 1), rank(0, 1), rank(1), rank(1), rank(0, 1))
	checkProfile(t, q, e, p, api.OK, "Make")
	kept, e := profile.Keep(p, []bool{false, true})
	checkProfile(t, kept, e, ranks(2, row(6, 1)), api.OK, "Keep")
}

func TestAdd(t *testing.T) {
	p := ranks(3, row(4, 0, 1), row(2, 1))
	for _, c := range []struct {
		p    api.Profile
		b    api.Ballot
		many int
		want api.Profile
	}{
		{ranks(3), rank(0, 1), 3, ranks(3, row(3, 0, 1))}, {ranks(3), rank(), 1, ranks(3, row(1))}, {ranks(3, row(1)), rank(), 1, ranks(3, row(2))},
		{p, rank(0, 1), 1, ranks(3, row(5, 0, 1), row(2, 1))}, {p, rank(1), 7, ranks(3, row(4, 0, 1), row(9, 1))}, {p, rank(), 2, ranks(3, row(2), row(4, 0, 1), row(2, 1))},
		{p, rank(0), 1, ranks(3, row(1, 0), row(4, 0, 1), row(2, 1))}, {p, rank(0, 2), 1, ranks(3, row(4, 0, 1), row(1, 0, 2), row(2, 1))},
		{p, rank(0, 1, 2), 1, ranks(3, row(4, 0, 1), row(1, 0, 1, 2), row(2, 1))}, {p, rank(1, 0), 1, ranks(3, row(4, 0, 1), row(2, 1), row(1, 1, 0))},
		{p, rank(2), 1, ranks(3, row(4, 0, 1), row(2, 1), row(1, 2))}, {p, rank(0, 1), 999994, ranks(3, row(999998, 0, 1), row(2, 1))},
		{p, rank(2, 0, 1), 999994, ranks(3, row(4, 0, 1), row(2, 1), row(999994, 2, 0, 1))},
		{marks(3, row(1, 0, 1), row(1, 1)), mark(0, 2), 2, marks(3, row(1, 0, 1), row(2, 0, 2), row(1, 1))}, {marks(3, row(1, 0, 1)), mark(0, 1), 2, marks(3, row(3, 0, 1))},
		{scores(2, row(1, 9, 0)), score(10, 0), 2, scores(2, row(1, 9, 0), row(2, 10, 0))}, {scores(2, row(1, 9, 0)), score(0, 0), 2, scores(2, row(2, 0, 0), row(1, 9, 0))},
		{scores(2, row(1, 9, 0)), score(9, 0), 2, scores(2, row(3, 9, 0))}, {ranks(1), rank(0), 1000000, ranks(1, row(1000000, 0))}, {ranks(10), rank(9), 1, ranks(10, row(1, 9))},
	} {
		checkAdd(t, c.p, c.b, c.many, c.want, api.OK)
		checkTake(t, c.want, c.b, c.many, c.p, api.OK)
	}
}

func TestTake(t *testing.T) {
	p := ranks(3, row(3), row(4, 0, 1), row(2, 1))
	for _, c := range []struct {
		b     api.Ballot
		many  int
		want  api.Profile
		wantE api.Errno
	}{
		{rank(), 1, ranks(3, row(2), row(4, 0, 1), row(2, 1)), api.OK}, {rank(), 3, ranks(3, row(4, 0, 1), row(2, 1)), api.OK}, {rank(), 4, api.Profile{}, api.ErrNone},
		{rank(0, 1), 3, ranks(3, row(3), row(1, 0, 1), row(2, 1)), api.OK}, {rank(0, 1), 4, ranks(3, row(3), row(2, 1)), api.OK}, {rank(0, 1), 5, api.Profile{}, api.ErrNone},
		{rank(1), 1, ranks(3, row(3), row(4, 0, 1), row(1, 1)), api.OK}, {rank(1), 2, ranks(3, row(3), row(4, 0, 1)), api.OK}, {rank(1), 3, api.Profile{}, api.ErrNone},
		{rank(0), 1, api.Profile{}, api.ErrNone}, {rank(2), 1, api.Profile{}, api.ErrNone}, {rank(1, 0), 1, api.Profile{}, api.ErrNone}, {rank(0, 1, 2), 1, api.Profile{}, api.ErrNone},
		{rank(1), math.MaxInt, api.Profile{}, api.ErrNone}, {rank(2), math.MaxInt, api.Profile{}, api.ErrNone}, {rank(1), 1<<32 + 2, api.Profile{}, api.ErrNone}, {rank(1), 1 << 32, api.Profile{}, api.ErrNone},
		{rank(1), 1000001, api.Profile{}, api.ErrNone}, {rank(), 9, api.Profile{}, api.ErrNone}, // there are 9 ballots, but not of this one
	} {
		checkTake(t, p, c.b, c.many, c.want, c.wantE)
	}
	checkTake(t, ranks(3, row(5, 1)), rank(1), 5, ranks(3), api.OK)
	checkTake(t, ranks(3), rank(1), 1, api.Profile{}, api.ErrNone)
	checkTake(t, ranks(3), rank(), 1, api.Profile{}, api.ErrNone)
	checkTake(t, ranks(3, row(1000000, 1)), rank(1), 1000000, ranks(3), api.OK)
	checkTake(t, marks(3, row(2), row(1, 0, 2)), mark(0, 2), 1, marks(3, row(2)), api.OK)
	checkTake(t, scores(2, row(2, 0, 0), row(1, 0, 2)), score(0, 0), 1, scores(2, row(1, 0, 0), row(1, 0, 2)), api.OK)
}

// A ballot of another kind, or one that is not valid among the profile's candidates, can neither be added nor taken.
func TestAddAndTakeOfWrongBallots(t *testing.T) {
	p := ranks(3, row(4, 0, 1), row(2, 1))
	for _, b := range []api.Ballot{mark(1), mark(), mark(0, 1), score(1), score(0, 0, 0), score(), {}, {Kind: 0, Marks: []int{1}}, {Kind: 4, Marks: []int{1}}, {Kind: 255, Marks: []int{1}},
		rank(3), rank(-1), rank(1, 1), rank(0, 1, 2, 0), rank(0, 3), rank(9), rank(10), rank(math.MaxInt), rank(math.MinInt), rank(257), rank(upTo(1000)...)} {
		for _, many := range []int{1, 2, 0, -1, math.MaxInt, math.MinInt, 1000001} {
			checkNoChange(t, p, b, many, api.ErrBad)
			checkNoChange(t, ranks(3), b, many, api.ErrBad)
		}
	}
	for _, b := range []api.Ballot{rank(1), rank(), mark(1, 0), mark(0, 0), mark(3), score(1, 0, 0)} {
		checkNoChange(t, marks(3, row(4, 1)), b, 1, api.ErrBad)
	}
	for _, b := range []api.Ballot{rank(1), mark(), score(), score(1, 0), score(1, 0, 0, 0), score(11, 0, 0), score(0, 0, -1)} {
		checkNoChange(t, scores(3, row(4, 1, 0, 0)), b, 1, api.ErrBad)
	}
}

func TestAddAndTakeOfTooFew(t *testing.T) {
	for _, p := range []api.Profile{ranks(3), ranks(3, row(4, 0, 1)), ranks(3, row(1000000, 0, 1)), fullRows(1, 64), fullRows(1, 1000000)} {
		for _, many := range []int{0, -1, -2, -4, math.MinInt, -1 << 32, math.MinInt + 1} {
			checkNoChange(t, p, rank(0, 1), many, api.ErrArg)
			checkNoChange(t, p, rank(2), many, api.ErrArg)
			checkNoChange(t, p, rank(2, 1, 0), many, api.ErrArg)
		}
	}
}

func TestAddAndTakeOfManyRows(t *testing.T) {
	for kind := uint8(1); kind <= 3; kind++ {
		rows := manyRows(kind, 66)
		for at := 0; at < 65; at += 4 {
			p := of(10, kind, slices.Delete(slices.Clone(rows[:65]), at, at+1)...)
			missing := api.Ballot{Kind: kind, Marks: rows[at].Marks}
			for _, many := range []int{1, 999936, 999937, 1000000, 1000001, math.MaxInt} {
				checkAdd(t, p, missing, many, api.Profile{}, api.ErrFull)
				checkTake(t, p, missing, many, api.Profile{}, api.ErrNone)
			}
			for i, present := range p.Rows {
				b := api.Ballot{Kind: kind, Marks: present.Marks}
				less := of(10, kind, slices.Delete(slices.Clone(p.Rows), i, i+1)...)
				checkTake(t, p, b, 1, less, api.OK)
				checkAdd(t, less, b, 1, p, api.OK)
				more := copied(p)
				more.Rows[i].Many = 999937
				checkAdd(t, p, b, 999936, more, api.OK)
				checkTake(t, more, b, 999936, p, api.OK)
				checkAdd(t, p, b, 999937, api.Profile{}, api.ErrMany)
				checkAdd(t, p, b, math.MaxInt, api.Profile{}, api.ErrMany)
				checkTake(t, p, b, 2, api.Profile{}, api.ErrNone)
			}
		}
	}
}

func TestAddToManyBallots(t *testing.T) {
	p := ranks(3, row(400000, 0), row(500000, 1))
	more := map[int]api.Errno{100000: api.OK, 99999: api.OK, 100001: api.ErrMany, 1000000: api.ErrMany, 1000001: api.ErrMany, math.MaxInt: api.ErrMany, math.MaxInt - 1: api.ErrMany,
		math.MaxInt - 400000: api.ErrMany, math.MaxInt - 500000 + 1: api.ErrMany, math.MaxInt - 899999: api.ErrMany, 1 << 32: api.ErrMany, 1<<32 - 900000: api.ErrMany, 1<<62 + 5: api.ErrMany, 1 << 31: api.ErrMany}
	for many, e := range more {
		for _, b := range []api.Ballot{rank(), rank(0), rank(0, 1), rank(1), rank(2)} {
			want, wantE := modelAdd(p, b, many)
			checkAdd(t, p, b, many, want, wantE)
			if wantE != e {
				t.Errorf("adding %d ballots gives error %d", many, int(wantE))
			}
		}
	}
	for _, b := range []api.Ballot{rank(), rank(0), rank(1, 0)} {
		for _, many := range []int{1, 2, 1000000, math.MaxInt} {
			checkAdd(t, ranks(3, row(1000000, 0)), b, many, api.Profile{}, api.ErrMany)
		}
	}
}

func TestAddAndTakeOfRandomBallots(t *testing.T) {
	random := rand.New(rand.NewSource(95))
	seen := map[api.Errno]int{}
	for range 40000 {
		p := randomProfile(random)
		if random.Intn(8) == 0 {
			p = spoilt(random, p)
		}
		b := api.Ballot{Kind: p.Kind, Marks: randomMarks(random, max(1, min(p.Cands, 10)), p.Kind)}
		if len(p.Rows) > 0 && random.Intn(2) == 0 {
			b.Marks = slices.Clone(p.Rows[random.Intn(len(p.Rows))].Marks)
		}
		if random.Intn(8) == 0 {
			b.Kind = uint8(random.Intn(5))
		}
		many := []int{-1, 0, 1, 2, 3, 1000, 1000000, math.MaxInt, randomMany(random), randomMany(random)}[random.Intn(10)]
		want, wantE := modelAdd(p, b, many)
		checkAdd(t, p, b, many, want, wantE)
		seen[wantE]++
		want, wantE = modelTake(p, b, many)
		checkTake(t, p, b, many, want, wantE)
		seen[wantE]++
	}
	for _, e := range []api.Errno{api.OK, api.ErrArg, api.ErrMany, api.ErrNone, api.ErrBad, api.ErrFull} {
		if seen[e] < 300 {
			t.Errorf("the changes have the errors %v", seen)
		}
	}
}

// P9.2: Make

func checkMake(t *testing.T, cands int, kind uint8, l []api.Ballot, want api.Profile, wantE api.Errno) {
	t.Helper()
	p, e := profile.Make(cands, kind, l...)
	checkProfile(t, p, e, want, wantE, "Make", cands, " ", kind, " ", len(l), " ", l[:min(len(l), 50)])
}

func TestMake(t *testing.T) {
	checkMake(t, 3, 1, []api.Ballot{rank(1)}, ranks(3, row(1, 1)), api.OK)
	checkMake(t, 3, 1, []api.Ballot{rank(1), rank(), rank(1), rank(0, 2), rank(1, 0), rank()}, ranks(3, row(2), row(1, 0, 2), row(2, 1), row(1, 1, 0)), api.OK)
	checkMake(t, 3, 2, []api.Ballot{mark(1), mark(), mark(0, 2), mark(1)}, marks(3, row(1), row(1, 0, 2), row(2, 1)), api.OK)
	checkMake(t, 2, 3, []api.Ballot{score(10, 0), score(9, 1), score(10, 0)}, scores(2, row(1, 9, 1), row(2, 10, 0)), api.OK)
}

func TestMakeOfNoBallots(t *testing.T) {
	for _, l := range [][]api.Ballot{nil, {}} {
		for cands := -1; cands <= 12; cands++ {
			for kind := range 256 {
				want, wantE := modelNew(cands, uint8(kind))
				checkMake(t, cands, uint8(kind), l, want, wantE)
			}
		}
	}
}

// The error of New comes before that of any ballot.
func TestMakeOfWrongParameters(t *testing.T) {
	for _, l := range [][]api.Ballot{{rank(0)}, {rank(0, 0)}, {{}}, {mark(1), rank(11)}, {{Kind: 4, Marks: []int{0}}}, slices.Repeat([]api.Ballot{rank()}, 100)} {
		for _, cands := range []int{math.MinInt, -1, 0, 11, 257, math.MaxInt} {
			for kind := uint8(0); kind <= 5; kind++ {
				checkMake(t, cands, kind, l, api.Profile{}, api.ErrArg)
			}
		}
		for _, kind := range []uint8{0, 4, 255} {
			checkMake(t, 3, kind, l, api.Profile{}, api.ErrArg)
		}
	}
}

func TestMakeOfWrongBallots(t *testing.T) {
	for _, wrong := range []api.Ballot{rank(3), rank(-1), rank(1, 1), mark(1), mark(), score(1, 1, 1), {}, {Kind: 4, Marks: []int{1}}, rank(math.MaxInt)} {
		for n := range 70 {
			l := slices.Repeat([]api.Ballot{rank(0), rank(1, 2), rank()}, 30)[:n]
			checkMake(t, 3, 1, append(l, wrong), api.Profile{}, api.ErrBad)
			checkMake(t, 3, 1, append(l, wrong, rank(0)), api.Profile{}, api.ErrBad)
		}
	}
	checkMake(t, 3, 2, []api.Ballot{mark(0), mark(2, 1)}, api.Profile{}, api.ErrBad)
	checkMake(t, 3, 3, []api.Ballot{score(0, 1, 2), score(0, 1)}, api.Profile{}, api.ErrBad)
}

// ballots returns one ballot of each row.
func ballots(kind uint8, rows []api.Row) []api.Ballot {
	var l []api.Ballot
	for _, r := range rows {
		l = append(l, api.Ballot{Kind: kind, Marks: r.Marks})
	}
	return l
}

// Of several errors, the one that is first in the order of the ballots is returned.
func TestMakeOfManyDifferentBallots(t *testing.T) {
	for kind := uint8(1); kind <= 3; kind++ {
		wrong := api.Ballot{Kind: kind, Marks: []int{-1}}
		l := ballots(kind, manyRows(kind, 70))
		slices.Reverse(l)
		for n := range 66 {
			want, wantE := of(10, kind, manyRows(kind, 70)[70-n:]...), api.OK
			if n > 64 {
				want, wantE = api.Profile{}, api.ErrFull
			}
			checkMake(t, 10, kind, l[:n], want, wantE)
		}
		checkMake(t, 10, kind, l, api.Profile{}, api.ErrFull)
		checkMake(t, 10, kind, slices.Insert(slices.Clone(l), 65, wrong), api.Profile{}, api.ErrFull)
		checkMake(t, 10, kind, slices.Insert(slices.Clone(l), 64, wrong), api.Profile{}, api.ErrBad)
		checkMake(t, 10, kind, slices.Insert(slices.Clone(l), 64, l[:64]...), api.Profile{}, api.ErrFull)
		twice := of(10, kind, manyRows(kind, 64)...)
		for i := range twice.Rows {
			twice.Rows[i].Many = 2
		}
		checkMake(t, 10, kind, append(l[6:], l[6:]...), twice, api.OK)
	}
}

func TestMakeOfManyBallots(t *testing.T) {
	l := slices.Repeat([]api.Ballot{rank(1)}, 1000001)
	l[77] = rank()
	checkMake(t, 2, 1, l[:1000000], ranks(2, row(1), row(999999, 1)), api.OK)
	checkMake(t, 2, 1, l, api.Profile{}, api.ErrMany)
	checkMake(t, 2, 1, append(l, rank(9)), api.Profile{}, api.ErrMany)
	l[1000000] = rank(2)
	checkMake(t, 2, 1, l, api.Profile{}, api.ErrBad)
	l[1000000] = rank(0)
	checkMake(t, 2, 1, l, api.Profile{}, api.ErrMany)
	l[0] = rank(2)
	checkMake(t, 2, 1, l, api.Profile{}, api.ErrBad)
}

// Where the last of the ballots is one too many in two ways, ErrFull comes first.
func TestMakeOfManyBallotsAndRows(t *testing.T) {
	l := append(ballots(1, manyRows(1, 64)), slices.Repeat([]api.Ballot{rank()}, 999936)...)
	for i := 64; i < len(l); i++ {
		l[i].Marks = l[63].Marks
	}
	last := manyRows(1, 65)[64].Marks
	checkMake(t, 10, 1, append(l, rank(last...)), api.Profile{}, api.ErrFull)
	checkMake(t, 10, 1, append(l, l[3]), api.Profile{}, api.ErrMany)
	checkMake(t, 10, 1, append(l, l[3], rank(last...)), api.Profile{}, api.ErrMany)
	checkMake(t, 10, 1, l, fullRowsAt(63), api.OK)
}

// fullRowsAt is a profile full in rows and ballots, with those beyond one of each in one row.
func fullRowsAt(at int) api.Profile {
	p := ranks(10, manyRows(1, 64)...)
	p.Rows[at].Many = 999937
	return p
}

func TestMakeOfRandomBallots(t *testing.T) {
	random := rand.New(rand.NewSource(96))
	seen := map[api.Errno]int{}
	for range 1500 {
		cands, kind := 1+random.Intn(10), uint8(1+random.Intn(3))
		var l []api.Ballot
		for range random.Intn(1 + random.Intn(200)) {
			l = append(l, api.Ballot{Kind: kind, Marks: randomMarks(random, cands, kind)})
			if random.Intn(300) == 0 {
				l[len(l)-1] = api.Ballot{Kind: uint8(random.Intn(5)), Marks: []int{random.Intn(12)}}
			}
		}
		if random.Intn(20) == 0 {
			cands = random.Intn(13) - 1
		}
		want, wantE := modelMake(cands, kind, l)
		checkMake(t, cands, kind, l, want, wantE)
		seen[wantE]++
	}
	if seen[api.OK] < 300 || seen[api.ErrBad] < 50 || seen[api.ErrFull] < 100 || seen[api.ErrArg] < 10 {
		t.Errorf("the profiles have the errors %v", seen)
	}
}

// P9.3: Sum and Minus

func checkSum(t *testing.T, p, q, want api.Profile, wantE api.Errno) {
	t.Helper()
	sum, e := profile.Sum(p, q)
	checkProfile(t, sum, e, want, wantE, "Sum", p, " and ", q)
}

func checkMinus(t *testing.T, p, q, want api.Profile, wantE api.Errno) {
	t.Helper()
	rest, e := profile.Minus(p, q)
	checkProfile(t, rest, e, want, wantE, "Minus", p, " and ", q)
}

func TestSumAndMinus(t *testing.T) {
	for _, c := range []struct{ p, q, sum api.Profile }{
		{ranks(3), ranks(3), ranks(3)}, {ranks(3), ranks(3, row(4, 0, 1), row(2, 1)), ranks(3, row(4, 0, 1), row(2, 1))},
		{ranks(3, row(4, 0, 1), row(2, 1)), ranks(3, row(4, 0, 1), row(2, 1)), ranks(3, row(8, 0, 1), row(4, 1))},
		{ranks(3, row(4, 0, 1), row(2, 1)), ranks(3, row(3), row(1, 0), row(5, 0, 1), row(1, 0, 1, 2), row(6, 2)), ranks(3, row(3), row(1, 0), row(9, 0, 1), row(1, 0, 1, 2), row(2, 1), row(6, 2))},
		{ranks(3, row(1, 0)), ranks(3, row(1, 1)), ranks(3, row(1, 0), row(1, 1))}, {ranks(3, row(1)), ranks(3, row(2)), ranks(3, row(3))},
		{marks(3, row(1, 0, 2)), marks(3, row(2, 0, 1, 2), row(1, 1)), marks(3, row(2, 0, 1, 2), row(1, 0, 2), row(1, 1))},
		{scores(2, row(1, 3, 0)), scores(2, row(2, 2, 9), row(1, 3, 0), row(1, 10, 0)), scores(2, row(2, 2, 9), row(2, 3, 0), row(1, 10, 0))},
		{ranks(1, row(500000)), ranks(1, row(500000)), ranks(1, row(1000000))}, {ranks(1, row(999999)), ranks(1, row(1, 0)), ranks(1, row(999999), row(1, 0))},
	} {
		checkSum(t, c.p, c.q, c.sum, api.OK)
		checkSum(t, c.q, c.p, c.sum, api.OK)
		checkMinus(t, c.sum, c.q, c.p, api.OK)
		checkMinus(t, c.sum, c.p, c.q, api.OK)
	}
}

func TestMinusOfTooMany(t *testing.T) {
	p := ranks(3, row(3), row(4, 0, 1), row(2, 1))
	for _, q := range []api.Profile{
		ranks(3, row(4)), ranks(3, row(5, 0, 1)), ranks(3, row(3, 1)), ranks(3, row(1, 0)), ranks(3, row(1, 2)), ranks(3, row(1, 0, 1, 2)), ranks(3, row(3), row(4, 0, 1), row(3, 1)),
		ranks(3, row(3), row(4, 0, 1), row(2, 1), row(1, 2)), ranks(3, row(3), row(1, 0), row(4, 0, 1), row(2, 1)), ranks(3, row(4), row(1, 0, 1)), ranks(3, row(1000000)), ranks(3, row(1), row(1000, 1)),
	} {
		checkMinus(t, p, q, api.Profile{}, api.ErrNone)
	}
	checkMinus(t, ranks(3), p, api.Profile{}, api.ErrNone)
	checkMinus(t, p, p, ranks(3), api.OK)
	checkMinus(t, ranks(3), ranks(3), ranks(3), api.OK)
	checkMinus(t, p, ranks(3, row(2), row(4, 0, 1)), ranks(3, row(1), row(2, 1)), api.OK)
	checkMinus(t, p, ranks(3, row(2, 1)), ranks(3, row(3), row(4, 0, 1)), api.OK)
}

func TestSumAndMinusOfProfilesThatDiffer(t *testing.T) {
	for _, c := range [][2]api.Profile{
		{ranks(3), ranks(4)}, {ranks(3), marks(3)}, {marks(3), scores(3)}, {ranks(10), ranks(1)}, {ranks(3, row(1, 0)), ranks(4, row(1, 0))}, {ranks(3, row(1, 0)), marks(3, row(1, 0))},
		{ranks(3, row(2, 0)), ranks(2, row(1, 0))}, {scores(2, row(1, 0, 1)), ranks(2, row(1, 0, 1))}, {ranks(3, row(1, 0)), ranks(4)}, {ranks(3, row(1, 0)), scores(3)},
		{ranks(9, row(1000000)), ranks(10, row(1000000))}, {fullRows(1, 1000000), fullRows(2, 1000000)}, {scores(3, row(1, 0, 0, 0)), scores(4, row(1, 0, 0, 0, 0))},
	} {
		for _, l := range [][2]api.Profile{{c[0], c[1]}, {c[1], c[0]}} {
			checkSum(t, l[0], l[1], api.Profile{}, api.ErrBad)
			checkMinus(t, l[0], l[1], api.Profile{}, api.ErrBad)
		}
	}
}

func TestSumOfManyRows(t *testing.T) {
	for kind := uint8(1); kind <= 3; kind++ {
		rows := manyRows(kind, 80)
		for _, n := range []int{0, 1, 20, 32, 63, 64} {
			for _, more := range []int{0, 1, 2, 30} {
				p, q := of(10, kind, rows[:n]...), of(10, kind, rows[min(n, 50):][:min(n+more, 80)-min(n, 50)]...)
				want, wantE := modelSum(p, q)
				checkSum(t, p, q, want, wantE)
				checkSum(t, q, p, want, wantE)
			}
		}
		checkSum(t, of(10, kind, rows[:40]...), of(10, kind, rows[40:64]...), of(10, kind, rows[:64]...), api.OK)
		checkSum(t, of(10, kind, rows[:40]...), of(10, kind, rows[40:65]...), api.Profile{}, api.ErrFull)
		checkSum(t, of(10, kind, rows[:64]...), of(10, kind, rows[64:65]...), api.Profile{}, api.ErrFull)
		checkSum(t, of(10, kind, rows[:64]...), of(10, kind, rows[16:80]...), api.Profile{}, api.ErrFull)
		checkMinus(t, of(10, kind, rows[:64]...), of(10, kind, rows[:64]...), of(10, kind), api.OK)
		checkMinus(t, of(10, kind, rows[:64]...), of(10, kind, rows[1:64]...), of(10, kind, rows[0]), api.OK)
		checkMinus(t, of(10, kind, rows[:64]...), of(10, kind, rows[1:65]...), api.Profile{}, api.ErrNone)
	}
}

func TestSumOfManyBallots(t *testing.T) {
	checkSum(t, ranks(3, row(600000, 0)), ranks(3, row(400000, 0)), ranks(3, row(1000000, 0)), api.OK)
	checkSum(t, ranks(3, row(600000, 0)), ranks(3, row(400001, 0)), api.Profile{}, api.ErrMany)
	checkSum(t, ranks(3, row(600000, 0)), ranks(3, row(400001, 1)), api.Profile{}, api.ErrMany)
	checkSum(t, ranks(3, row(1000000, 0)), ranks(3, row(1000000, 0)), api.Profile{}, api.ErrMany)
	checkSum(t, ranks(3, row(1000000, 0)), ranks(3, row(1, 2)), api.Profile{}, api.ErrMany)
	checkSum(t, ranks(3, row(1000000, 0)), ranks(3), ranks(3, row(1000000, 0)), api.OK)
	checkSum(t, fullRows(1, 500000), fullRows(1, 500001), api.Profile{}, api.ErrMany)
}

// Where a sum has both too many rows and too many ballots, ErrFull comes first, wherever in the order of the rows the ballots become too many.
func TestSumOfManyRowsAndBallots(t *testing.T) {
	for kind := uint8(1); kind <= 3; kind++ {
		for _, at := range []int{0, 1, 30, 62, 63} {
			p, q := of(10, kind, manyRows(kind, 64)...), of(10, kind, manyRows(kind, 66)[2:]...)
			p.Rows[at].Many, q.Rows[at].Many = 999937, 999937
			checkSum(t, p, q, api.Profile{}, api.ErrFull)
			checkSum(t, q, p, api.Profile{}, api.ErrFull)
			checkSum(t, p, p, api.Profile{}, api.ErrMany)
			checkSum(t, p, of(10, kind, row(1, manyRows(kind, 65)[64].Marks...)), api.Profile{}, api.ErrFull)
		}
	}
}

func TestSumAndMinusOfRandomProfiles(t *testing.T) {
	random := rand.New(rand.NewSource(97))
	seen := map[api.Errno]int{}
	for range 20000 {
		p := randomProfile(random)
		q := likeProfile(random, p)
		if random.Intn(4) == 0 {
			q = spoilt(random, p)
		}
		if random.Intn(8) == 0 {
			p = spoilt(random, p)
		}
		want, wantE := modelSum(p, q)
		checkSum(t, p, q, want, wantE)
		seen[wantE]++
		want, wantE = modelMinus(p, q)
		checkMinus(t, p, q, want, wantE)
		seen[wantE]++
	}
	for _, e := range []api.Errno{api.OK, api.ErrMany, api.ErrNone, api.ErrBad, api.ErrFull} {
		if seen[e] < 300 {
			t.Errorf("the sums and differences have the errors %v", seen)
		}
	}
}

// P9.4: Keep

func checkKeep(t *testing.T, p api.Profile, left []bool, want api.Profile, wantE api.Errno) {
	t.Helper()
	kept, e := profile.Keep(p, left)
	checkProfile(t, kept, e, want, wantE, "Keep", p, " ", left[:min(len(left), 20)])
}

func TestKeep(t *testing.T) {
	no, yes := false, true
	p := ranks(3, row(1), row(2, 0), row(4, 0, 1), row(8, 0, 2), row(16, 1), row(32, 2, 0, 1), row(64, 2, 1, 0))
	q := marks(3, row(1), row(2, 0), row(4, 0, 1), row(8, 0, 1, 2), row(16, 1), row(32, 1, 2), row(64, 2))
	r := scores(3, row(1, 0, 0, 0), row(2, 0, 0, 9), row(4, 0, 10, 0), row(8, 0, 10, 2), row(16, 3, 0, 0), row(32, 3, 1, 1))
	for _, c := range []struct {
		p    api.Profile
		left []bool
		want api.Profile
	}{
		{p, []bool{yes, yes, yes}, p}, {p, []bool{yes, yes, yes, yes}, p}, {p, slices.Repeat([]bool{yes}, 20), p}, {p, nil, ranks(3, row(127))}, {p, []bool{}, ranks(3, row(127))},
		{p, []bool{no, no, no}, ranks(3, row(127))}, {p, []bool{yes}, ranks(3, row(17), row(110, 0))}, {p, []bool{yes, yes}, ranks(3, row(1), row(10, 0), row(36, 0, 1), row(16, 1), row(64, 1, 0))},
		{p, []bool{no, yes, yes}, ranks(3, row(3), row(20, 1), row(8, 2), row(96, 2, 1))}, {p, []bool{no, no, yes}, ranks(3, row(23), row(104, 2))}, {p, []bool{no, no, no, yes}, ranks(3, row(127))},
		{q, []bool{yes, yes, yes}, q}, {q, nil, marks(3, row(127))}, {q, []bool{yes, yes}, marks(3, row(65), row(2, 0), row(12, 0, 1), row(48, 1))},
		{q, []bool{yes, no, yes}, marks(3, row(17), row(6, 0), row(8, 0, 2), row(96, 2))}, {q, []bool{no, yes, no, yes}, marks(3, row(67), row(60, 1))},
		{r, []bool{yes, yes, yes}, r}, {r, nil, scores(3, row(63, 0, 0, 0))}, {r, []bool{no, no, no, yes}, scores(3, row(63, 0, 0, 0))},
		{r, []bool{yes, yes}, scores(3, row(3, 0, 0, 0), row(12, 0, 10, 0), row(16, 3, 0, 0), row(32, 3, 1, 0))}, {r, []bool{yes}, scores(3, row(15, 0, 0, 0), row(48, 3, 0, 0))},
		{r, []bool{no, yes, yes}, scores(3, row(17, 0, 0, 0), row(2, 0, 0, 9), row(32, 0, 1, 1), row(4, 0, 10, 0), row(8, 0, 10, 2))},
		{ranks(2, row(4, 0, 1), row(2, 1)), []bool{no, yes}, ranks(2, row(6, 1))}, {ranks(2), nil, ranks(2)}, {marks(2), []bool{yes}, marks(2)}, {scores(2), []bool{yes, no, yes}, scores(2)},
		{fullRows(1, 1000000), nil, ranks(10, row(1000000))},
	} {
		checkKeep(t, c.p, c.left, c.want, api.OK)
	}
}

func TestKeepOfRandomProfiles(t *testing.T) {
	random := rand.New(rand.NewSource(98))
	for range 10000 {
		p := randomProfile(random)
		if random.Intn(8) == 0 {
			p = spoilt(random, p)
		}
		left := make([]bool, random.Intn(13))
		for c := range left {
			left[c] = random.Intn(3) > 0
		}
		want, wantE := modelKeep(p, left)
		checkKeep(t, p, left, want, wantE)
	}
}

// P9.4: Rename

func checkRename(t *testing.T, p api.Profile, perm []int, want api.Profile, wantE api.Errno) {
	t.Helper()
	renamed, e := profile.Rename(p, perm)
	checkProfile(t, renamed, e, want, wantE, "Rename", p, " ", perm[:min(len(perm), 20)])
}

func TestRename(t *testing.T) {
	p := ranks(3, row(1), row(2, 0), row(4, 0, 1), row(8, 2), row(16, 2, 0, 1))
	q := marks(3, row(1), row(2, 0), row(4, 0, 1), row(8, 0, 1, 2), row(16, 1, 2))
	r := scores(3, row(1, 0, 0, 0), row(2, 0, 0, 9), row(4, 0, 10, 0), row(8, 3, 2, 1))
	for _, c := range []struct {
		p    api.Profile
		perm []int
		want api.Profile
	}{
		{p, []int{0, 1, 2}, p}, {p, []int{1, 2, 0}, ranks(3, row(1), row(8, 0), row(16, 0, 1, 2), row(2, 1), row(4, 1, 2))}, {p, []int{2, 1, 0}, ranks(3, row(1), row(8, 0), row(16, 0, 2, 1), row(2, 2), row(4, 2, 1))},
		{q, []int{0, 1, 2}, q}, {q, []int{1, 2, 0}, marks(3, row(1), row(8, 0, 1, 2), row(16, 0, 2), row(2, 1), row(4, 1, 2))}, {q, []int{2, 1, 0}, marks(3, row(1), row(16, 0, 1), row(8, 0, 1, 2), row(4, 1, 2), row(2, 2))},
		{r, []int{0, 1, 2}, r}, {r, []int{1, 2, 0}, scores(3, row(1, 0, 0, 0), row(4, 0, 0, 10), row(8, 1, 3, 2), row(2, 9, 0, 0))},
		{ranks(2), []int{1, 0}, ranks(2)}, {marks(1, row(3, 0)), []int{0}, marks(1, row(3, 0))}, {scores(1), []int{0}, scores(1)},
		{ranks(10, row(1, 9, 0), row(2, 9, 1)), []int{9, 8, 7, 6, 5, 4, 3, 2, 1, 0}, ranks(10, row(2, 0, 8), row(1, 0, 9))},
	} {
		checkRename(t, c.p, c.perm, c.want, api.OK)
		checkRename(t, c.want, modelInverse(c.perm), c.p, api.OK)
	}
}

// A permutation of some candidates, or of more than there are, is not one of the candidates, also of a profile without rows.
func TestRenameByNoPermutation(t *testing.T) {
	for _, perm := range [][]int{nil, {}, {0}, {0, 1}, {1, 0}, {0, 1, 2, 3}, {3, 2, 1, 0}, {0, 1, 1}, {0, 0, 0}, {1, 1, 2}, {2, 1, 2}, {0, 1, 3}, {1, 2, 3}, {-1, 0, 1}, {0, 1, -1}, {0, 1, -2}, {0, 1, 258},
		{0, 1, 1<<32 + 2}, {0, 1, math.MaxInt}, {math.MinInt, 1, 2}, {256, 257, 258}, {0, 1, 2, 2}, {0, 1, 2, -1}, upTo(10), upTo(11), upTo(1000), {0, 1, 9}, {10, 11, 12}} {
		for _, p := range []api.Profile{ranks(3), ranks(3, row(1)), ranks(3, row(1, 0)), marks(3), marks(3, row(1)), marks(3, row(1, 0, 1)), scores(3), scores(3, row(1, 0, 0, 0)), scores(3, row(4, 1, 2, 3))} {
			checkRename(t, p, perm, api.Profile{}, api.ErrArg)
		}
	}
	for cands := 1; cands <= 10; cands++ {
		for n := range 13 {
			for kind := uint8(1); kind <= 3; kind++ {
				want, wantE := of(cands, kind), api.OK
				if n != cands {
					want, wantE = api.Profile{}, api.ErrArg
				}
				checkRename(t, of(cands, kind), upTo(n), want, wantE)
			}
		}
	}
}

func TestRenameOfRandomProfiles(t *testing.T) {
	random := rand.New(rand.NewSource(99))
	seen := map[api.Errno]int{}
	for range 10000 {
		p := randomProfile(random)
		perm := random.Perm(p.Cands)
		if random.Intn(8) == 0 {
			p = spoilt(random, p)
		}
		if random.Intn(3) == 0 {
			perm[random.Intn(len(perm))] = random.Intn(len(perm)+2) - 1
		}
		want, wantE := modelRename(p, perm)
		checkRename(t, p, perm, want, wantE)
		seen[wantE]++
	}
	if seen[api.OK] < 1000 || seen[api.ErrArg] < 500 || seen[api.ErrBad] < 200 {
		t.Errorf("the renamings have the errors %v", seen)
	}
}

// All small profiles of two rows are renamed and kept as the model has it.
func TestTurnsOfAllSmallProfiles(t *testing.T) {
	ballots := map[uint8][][]int{1: {{}, {0}, {0, 1}, {1}, {1, 0, 2}, {2}, {2, 1}}, 2: {{}, {0}, {0, 1}, {0, 1, 2}, {1}, {1, 2}, {2}}, 3: {{0, 0, 0}, {0, 0, 1}, {0, 10, 0}, {1, 0, 0}, {1, 1, 0}, {2, 1, 0}}}
	for kind, l := range ballots {
		for i := range l {
			for j := range i {
				p := of(3, kind, row(2, l[j]...), row(5, l[i]...))
				for _, perm := range perms(3) {
					want, wantE := modelRename(p, perm)
					checkRename(t, p, perm, want, wantE)
				}
				for set := range 16 {
					left := []bool{set&1 > 0, set&2 > 0, set&4 > 0, set&8 > 0}
					want, wantE := modelKeep(p, left)
					checkKeep(t, p, left, want, wantE)
					checkKeep(t, p, left[:3], want, wantE)
				}
			}
		}
	}
	if n := fmt.Sprint(perms(3)); n != "[[2 1 0] [1 2 0] [1 0 2] [2 0 1] [0 2 1] [0 1 2]]" {
		t.Errorf("the permutations are %s", n)
	}
}
