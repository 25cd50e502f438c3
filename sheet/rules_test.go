package sheet_test

import (
	"bytes"
	"math"
	"math/rand"
	"slices"
	"strings"
	"testing"

	"suffrage/api"
	"suffrage/sheet"
)

// answer is all that a call returns, in one form for all calls.
type answer struct {
	n int
	s api.Sheet
	r api.Reading
	e api.Errno
}

func (a answer) equal(b answer) bool {
	return a.n == b.n && bytes.Equal(a.s.Boxes, b.s.Boxes) && modelSame(a.r, b.r) && a.e == b.e
}

// twin returns a copy of a.
func (a answer) twin() answer {
	a.s.Boxes, a.r.Doubts, a.r.Ballot.Marks = bytes.Clone(a.s.Boxes), slices.Clone(a.r.Doubts), slices.Clone(a.r.Ballot.Marks)
	return a
}

// scribble overwrites the memory of a up to the capacities.
func (a answer) scribble() {
	scribbleBytes(a.s.Boxes)
	scribbleNumbers(a.r.Ballot.Marks)
	scribbleNumbers(a.r.Doubts)
}

func scribbleBytes(b []byte) {
	for i := range b[:cap(b)] {
		b[:cap(b)][i] ^= 0xa5
	}
}

func scribbleNumbers(l []int) {
	for i := range l[:cap(l)] {
		l[:cap(l)][i] = -99
	}
}

// call is a call with its arguments.
type call struct {
	name string
	c    api.Contest
	p    api.Policy
	s    api.Sheet
	l    []api.Decision
	b    api.Ballot
	do   func(x call) answer
}

// scribble overwrites the memory of the arguments up to the capacities.
func (x call) scribble() {
	cands, l := x.c.Cands[:cap(x.c.Cands)], x.l[:cap(x.l)]
	for i := range cands {
		cands[i] = "scribbled"
	}
	for i := range l {
		l[i] = api.Decision{Box: -99, Marked: !l[i].Marked}
	}
	scribbleBytes(x.s.Boxes)
	scribbleNumbers(x.b.Marks)
}

func boxesCall(x call) answer {
	n, e := sheet.Boxes(x.c)
	return answer{n: n, e: e}
}

func checkCall(x call) answer { return answer{e: sheet.Check(x.c, x.s)} }

func readCall(x call) answer {
	r, e := sheet.Read(x.c, x.p, x.s, x.l)
	return answer{r: r, e: e}
}

func fillCall(x call) answer {
	s, e := sheet.Fill(x.c, x.b)
	return answer{s: s, e: e}
}

// roomy returns a copy of l with other elements behind its length.
func roomy[T any](l []T, behind ...T) []T {
	return append(slices.Concat(make([]T, 0, len(l)+len(behind)), l), behind...)[:len(l)]
}

// readings returns calls of Read by what they are, right and wrong.
func readings() map[string]call {
	l := map[string]call{
		"marks":              {c: of(2, 4), p: policy(0), s: drawn("x ? . x")},
		"decided marks":      {c: of(2, 4), p: policy(0), s: drawn("x ? ? x"), l: []api.Decision{marked(2)}},
		"two marks for one":  {c: of(1, 4), p: policy(0), s: drawn("x ? . x")},
		"a ranking":          {c: of(9, 3), p: policy(0), s: drawn(".x. x.. ..?")},
		"a decided ranking":  {c: of(9, 3), p: policy(1), s: drawn(".x. x.. ?.?"), l: []api.Decision{marked(8)}},
		"an overvoted one":   {c: of(9, 3), p: policy(2), s: drawn("x?. .x. .x?"), l: []api.Decision{empty(1)}},
		"a blank one":        {c: of(12, 3), p: policy(1), s: drawn("... ... ...")},
		"scores":             {c: of(3, 2), p: policy(0), s: drawn("x?......... ......x...?")},
		"decided scores":     {c: of(3, 2), p: policy(0), s: drawn("x?......... ......x...?"), l: []api.Decision{marked(1), empty(21)}},
		"a wrong contest":    {c: of(9, 11), p: policy(0), s: uniform(121, 0)},
		"a wrong sheet":      {c: of(9, 3), p: policy(0), s: uniform(8, 0)},
		"a dark box":         {c: of(2, 3), p: policy(0), s: api.Sheet{Boxes: []uint8{101, 30, 30}}, l: []api.Decision{marked(1)}},
		"a wrong policy":     {c: of(2, 3), p: policy(11), s: drawn("? ? x"), l: []api.Decision{marked(1)}},
		"too many decisions": {c: of(2, 3), p: policy(0), s: drawn("? ? x"), l: all(4, true)},
		"a wrong decision":   {c: of(2, 3), p: policy(0), s: drawn("? ? x"), l: all(3, true)},
		"two decisions":      {c: of(2, 3), p: policy(0), s: drawn("? ? x"), l: []api.Decision{marked(0), empty(0)}},
	}
	for name, bad := range badContests() {
		l[name] = call{c: bad.c, p: policy(0), s: drawn("x ? ."), l: []api.Decision{marked(1)}}
	}
	return l
}

// ballots returns ballots of all kinds, valid and not.
func ballots() []api.Ballot {
	return []api.Ballot{rank(), rank(1, 0), rank(2, 0, 1), rank(0, 0), mark(), mark(1), mark(0, 2), mark(2, 0), score(0, 10), score(5, 0, 3), score(11, 0), {}, {Kind: 9, Marks: []int{0}}}
}

// calls returns each of the package's calls, with arguments that have room behind them, right and wrong.
func calls() []call {
	var l []call
	add := func(name string, x call, do func(x call) answer) {
		x.name, x.do = name, do
		x.c.Cands = roomy(x.c.Cands, "behind", "", "c0", "c1")
		x.c.Name = strings.Clone(x.c.Name)
		x.s.Boxes = roomy(x.s.Boxes, 0, 30, 100, 101, 30)
		x.l = roomy(x.l, marked(0), marked(1), empty(-1))
		x.b.Marks = roomy(x.b.Marks, 3, 0, 1, -1)
		l = append(l, x)
	}
	for name, x := range readings() {
		add("Boxes of "+name, x, boxesCall)
		add("Check of "+name, x, checkCall)
		add("Read of "+name, x, readCall)
		for _, b := range ballots() {
			x.b = b
			add("Fill of "+name, x, fillCall)
		}
	}
	return l
}

// R1

func TestR1ErrorsHaveTheirNumbers(t *testing.T) {
	if api.ErrArg != 2 || api.ErrMany != 4 || api.ErrBad != 8 {
		t.Error("an error has another number")
	}
}

func TestR1NothingBesideAnError(t *testing.T) {
	failed := map[string]bool{}
	for _, x := range calls() {
		a := x.do(x)
		if a.e == api.OK {
			continue
		}
		name, _, _ := strings.Cut(x.name, " ")
		failed[name+" "+string(rune('0'+a.e))] = true
		if a.n != 0 || a.s.Boxes != nil || a.r.Ballot.Kind != 0 || a.r.Ballot.Marks != nil || a.r.Over != 0 || a.r.Doubts != nil {
			t.Errorf("%s: %v beside an error", x.name, a)
		}
	}
	for _, want := range []string{"Boxes 4", "Boxes 8", "Check 4", "Check 8", "Read 2", "Read 4", "Read 8", "Fill 4", "Fill 8"} {
		if !failed[want] {
			t.Errorf("no call fails with %s", want)
		}
	}
}

// For each call, arguments with which several errors apply: the one that is named first is returned. More of them are in errors_test.go.
func TestR1ErrorsInOrder(t *testing.T) {
	for _, bad := range badContests() {
		checkCheck(t, bad.c, uniform(200, 255), bad.e)
		checkError(t, bad.c, api.Policy{}, uniform(200, 255), all(201, true), bad.e)
		checkFill(t, bad.c, api.Ballot{Kind: 9, Marks: []int{-1}}, api.Sheet{}, bad.e)
	}
	c := of(9, 3)
	checkError(t, c, api.Policy{}, uniform(9, 255), all(10, true), api.ErrBad)
	checkError(t, c, api.Policy{}, uniform(9, 30), all(10, true), api.ErrArg)
	checkError(t, c, policy(0), uniform(9, 30), append(all(9, true), empty(-1)), api.ErrMany)
	checkError(t, c, policy(0), uniform(9, 30), append(all(8, true), empty(-1)), api.ErrArg)
}

// A call that fails, at whatever decision it does so, leaves the sheet as it was for the next one.
func TestR1AFailedCallHasNoEffect(t *testing.T) {
	c, s, l := of(2, 4), drawn("? ? ? ?"), append(all(3, true), marked(4))
	want := api.Reading{Ballot: api.Ballot{Kind: 2}, Doubts: []int{0, 1, 2, 3}}
	for range 3 {
		checkError(t, c, policy(0), s, l, api.ErrArg)
		checkRead(t, c, policy(0), s, nil, want, api.OK)
		checkRead(t, c, policy(0), s, l[3:3], want, api.OK)
		checkRead(t, c, policy(0), s, l[1:3], api.Reading{Ballot: api.Ballot{Kind: 2, Marks: []int{1, 2}}, Doubts: []int{0, 3}}, api.OK)
	}
	if !slices.Equal(s.Boxes, []uint8{30, 30, 30, 30}) {
		t.Errorf("the sheet becomes %s", show(s))
	}
}

// R2

// memory returns a copy of all that a call's arguments hold, up to the capacities.
func memory(x call) call {
	x.c.Cands, x.l = slices.Clone(x.c.Cands[:cap(x.c.Cands)]), slices.Clone(x.l[:cap(x.l)])
	x.s.Boxes, x.b.Marks = bytes.Clone(x.s.Boxes[:cap(x.s.Boxes)]), slices.Clone(x.b.Marks[:cap(x.b.Marks)])
	return x
}

func checkMemory(t *testing.T, x, before call) {
	t.Helper()
	now := memory(x)
	if !slices.Equal(now.c.Cands, before.c.Cands) || !slices.Equal(now.l, before.l) || !bytes.Equal(now.s.Boxes, before.s.Boxes) || !slices.Equal(now.b.Marks, before.b.Marks) {
		t.Errorf("%s: the memory of an argument changes", x.name)
	}
}

func TestR2ArgumentsStay(t *testing.T) {
	for _, x := range calls() {
		before := memory(x)
		x.do(x)
		checkMemory(t, x, before)
	}
}

func TestR2AnswersShareNothingWithArguments(t *testing.T) {
	for _, x := range calls() {
		before := memory(x)
		a := x.do(x)
		want := a.twin()
		a.scribble()
		checkMemory(t, x, before)
		a = x.do(x)
		x.scribble()
		if !a.equal(want) {
			t.Errorf("%s: the answer changes with the arguments", x.name)
		}
	}
}

// Each part of an answer is overwritten, and the others stay.
func TestR2PartsOfAnAnswerShareNothing(t *testing.T) {
	both := 0
	for _, x := range calls() {
		a := x.do(x)
		want := a.twin()
		scribbleNumbers(a.r.Ballot.Marks)
		if !slices.Equal(a.r.Doubts, want.r.Doubts) {
			t.Errorf("%s: the doubts change with the marks", x.name)
		}
		a = x.do(x)
		scribbleNumbers(a.r.Doubts)
		if !slices.Equal(a.r.Ballot.Marks, want.r.Ballot.Marks) {
			t.Errorf("%s: the marks change with the doubts", x.name)
		}
		if len(a.r.Doubts) > 0 && len(a.r.Ballot.Marks) > 0 {
			both++
		}
	}
	if both < 5 {
		t.Errorf("%d readings have marks and doubts", both)
	}
}

// A second answer depends neither on the first, nor on what became of it, nor on calls between.
func TestR2NothingIsKept(t *testing.T) {
	l := calls()
	for i, x := range l {
		first := x.do(x)
		want := first.twin()
		first.scribble()
		for _, y := range l[max(0, i-5):min(len(l), i+6)] {
			y.do(y)
		}
		again := x.do(x)
		first.scribble()
		if !again.equal(want) {
			t.Errorf("%s: the second answer is %v; want %v", x.name, again, want)
		}
	}
}

// The marks of a reading may be filled into a sheet, which may be read, without any of them changing.
func TestR2AnswersAsArguments(t *testing.T) {
	c := of(9, 3)
	first, _ := sheet.Read(c, policy(0), drawn(".x. x.. ..x"), nil)
	s, _ := sheet.Fill(c, first.Ballot)
	second, _ := sheet.Read(c, policy(0), s, nil)
	scribbleNumbers(first.Ballot.Marks)
	scribbleBytes(s.Boxes)
	if !slices.Equal(second.Ballot.Marks, []int{1, 0, 2}) {
		t.Errorf("the second ranking becomes %v", second.Ballot.Marks)
	}
}

// R3

func TestR3NilAndEmptyAreEqual(t *testing.T) {
	for _, l := range [][]api.Decision{nil, {}, all(3, true)[:0], make([]api.Decision, 0, 9)} {
		checkRead(t, of(2, 2), policy(0), drawn("x ?"), l, api.Reading{Ballot: api.Ballot{Kind: 2, Marks: []int{0}}, Doubts: []int{1}}, api.OK)
	}
	for _, boxes := range [][]uint8{nil, {}, make([]uint8, 0, 9), uniform(9, 0).Boxes[:0]} {
		for rule := uint8(1); rule <= 16; rule++ {
			checkCheck(t, of(rule, 3), api.Sheet{Boxes: boxes}, api.ErrBad)
			checkError(t, of(rule, 3), policy(0), api.Sheet{Boxes: boxes}, nil, api.ErrBad)
			checkBoxes(t, api.Contest{Name: "council", Cands: []string{}, Seats: 1, Rule: rule}, 0, api.ErrBad)
		}
	}
	for _, marks := range [][]int{nil, {}, make([]int, 0, 9), firsts(3)[:0]} {
		checkFilled(t, 9, api.Ballot{Kind: 1, Marks: marks}, "... ... ...")
		checkFilled(t, 2, api.Ballot{Kind: 2, Marks: marks}, ". . .")
		refuse(t, 3, 3, api.Ballot{Kind: 3, Marks: marks})
	}
}

// R5

// Candidates and doubts are in increasing order, rankings in that of the ranks, and scores in that of the candidates.
func TestR5Order(t *testing.T) {
	checkDecided(t, 2, 0, "? x ? x ?", []api.Decision{marked(4), marked(0)}, []int{0, 1, 3, 4}, 0, 2)
	checkDecided(t, 9, 0, "..?. ...? .x.. x...", []api.Decision{marked(7), marked(2)}, []int{3, 2, 0, 1}, 0)
	checkDrawn(t, 9, 0, "..?. ...? .x.. x...", []int{3, 2}, 0, 2, 7)
	checkDecided(t, 3, 0, "?.........? ?......?...", []api.Decision{marked(18), marked(10)}, []int{10, 7}, 0, 0, 11)
}

// R6

// All rules, and all values of a policy's and a sheet's bytes; integers of all sizes, which are no smaller for being reduced to a byte.
func TestR6AllValues(t *testing.T) {
	for rule := range 256 {
		for _, n := range []int{0, 1, 2, 10, 11, 266} {
			c := of(uint8(rule), n)
			size, _ := modelBoxes(c)
			checkAll(t, c, policy(0), uniform(size, 30), nil, rank())
			checkAll(t, c, policy(0), uniform(size+1, 30), nil, mark())
			checkAll(t, c, policy(0), uniform(size, 60), nil, score(make([]int, n)...))
		}
	}
	for value := range 256 {
		for other := range 256 {
			p := api.Policy{Low: uint8(value), High: uint8(other)}
			for _, box := range []uint8{0, 50, 100, uint8(value), uint8(other), uint8(value - 1), uint8(other - 1)} {
				want, wantE := modelRead(of(1, 1), p, uniform(1, box), nil)
				checkRead(t, of(1, 1), p, uniform(1, box), nil, want, wantE)
			}
		}
	}
	for kind := range 256 {
		for rule := uint8(1); rule <= 16; rule++ {
			for _, marks := range [][]int{nil, {0}, {0, 0}, {0, 1}} {
				b := api.Ballot{Kind: uint8(kind), Marks: marks}
				want, wantE := modelFill(of(rule, 2), b)
				checkFill(t, of(rule, 2), b, want, wantE)
			}
		}
	}
}

func TestR6NothingOverflows(t *testing.T) {
	for _, size := range []int{8, 16, 32, 63} {
		for n := range 12 {
			for _, wide := range []int{n + 1<<size, n - 1<<size, -1 - n, math.MaxInt - n, math.MinInt + n} {
				checkError(t, of(9, 3), policy(wide), uniform(9, 30), nil, api.ErrArg)
				checkError(t, of(9, 10), policy(0), uniform(100, 30), []api.Decision{marked(wide)}, api.ErrArg)
				refuse(t, 9, 10, rank(wide))
				refuse(t, 2, 10, mark(wide))
				refuse(t, 3, 1, score(wide))
			}
		}
	}
}

// R7

// A panic or an endless call would fail the test by itself.
func TestR7AnyArguments(t *testing.T) {
	random := rand.New(rand.NewSource(2510))
	long := strings.Repeat("x", 1<<20)
	contests := []api.Contest{{}, of(1, 1), of(3, 10), of(9, 10), of(16, 10), of(255, 3), of(9, 1<<16), {Name: long, Cands: []string{long, long}, Seats: math.MinInt, Rule: 3}}
	sheets := []api.Sheet{{}, uniform(1, 0), uniform(1, 255), uniform(10, 50), uniform(100, 50), uniform(110, 100), uniform(1<<20, 0)}
	decisions := [][]api.Decision{nil, {{Box: math.MinInt}}, {{Box: math.MaxInt, Marked: true}}, all(10, true), all(100, false), make([]api.Decision, 1<<16)}
	ballots := []api.Ballot{{}, rank(math.MinInt), mark(math.MaxInt), score(math.MinInt), {Kind: 255, Marks: make([]int, 1<<16)}, {Kind: 3, Marks: make([]int, 1<<16)}, score(make([]int, 10)...)}
	for _, c := range contests {
		for _, p := range append(wrongPolicies(), policy(0), policy(10), api.Policy{Low: 1, High: 100, Skips: 5}) {
			for i, s := range sheets {
				for j, l := range decisions {
					checkAll(t, c, p, s, l, ballots[(i+j)%len(ballots)])
				}
			}
		}
	}
	for range 10000 {
		c := of(uint8(random.Intn(18)), random.Intn(12))
		s := api.Sheet{Boxes: make([]uint8, random.Intn(130))}
		if n, e := modelBoxes(c); e == api.OK && random.Intn(3) > 0 {
			s.Boxes = make([]uint8, n)
		}
		for i := range s.Boxes {
			s.Boxes[i] = uint8(random.Intn(101 + random.Intn(3)))
		}
		p := api.Policy{Low: uint8(random.Intn(60)), High: uint8(40 + random.Intn(62)), Skips: random.Intn(13) - 1}
		var l []api.Decision
		for range random.Intn(4) {
			l = append(l, api.Decision{Box: random.Intn(112) - 1, Marked: random.Intn(2) == 0})
		}
		b := api.Ballot{Kind: uint8(random.Intn(5))}
		for range random.Intn(12) {
			b.Marks = append(b.Marks, random.Intn(12)-1)
		}
		checkAll(t, c, p, s, l, b)
	}
}
