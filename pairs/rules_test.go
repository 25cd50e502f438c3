package pairs_test

import (
	"fmt"
	"math"
	"math/rand"
	"runtime"
	"slices"
	"testing"
	"unsafe"

	"suffrage/api"
	"suffrage/pairs"
)

// answer is all that a call returns, in one form for all calls.
type answer struct {
	m  api.Pairs
	l  []int
	n  int
	ok bool
	e  api.Errno
}

func (a answer) equal(b answer) bool {
	return a.m == b.m && slices.Equal(a.l, b.l) && a.n == b.n && a.ok == b.ok && a.e == b.e
}

// twin returns a copy of a, with memory of its own.
func (a answer) twin() answer {
	a.l = slices.Clone(a.l)
	return a
}

// call is a call with its arguments; model is what the document says of it.
type call struct {
	name      string
	p         api.Profile
	a, b      api.Pairs
	perm      []int
	cands     int
	x, y      int
	do, model func(x call) answer
}

func matrixAnswer(m api.Pairs, e api.Errno) answer { return answer{m: m, e: e} }

func listAnswer(l []int, e api.Errno) answer { return answer{l: l, e: e} }

// operation is a function of the package, and the model's.
type operation struct {
	name      string
	do, model func(x call) answer
}

// operations returns all of the package's functions.
func operations() []operation {
	return []operation{
		{"Of", func(x call) answer { return matrixAnswer(pairs.Of(x.p)) }, func(x call) answer { return matrixAnswer(modelOf(x.p)) }},
		{"Right", func(x call) answer { return answer{ok: pairs.Right(x.a, x.cands)} }, func(x call) answer { return answer{ok: modelRight(x.a, x.cands)} }},
		{"Margin", func(x call) answer { return answer{n: pairs.Margin(x.a, x.x, x.y)} }, func(x call) answer { return answer{n: modelMargin(x.a, x.x, x.y)} }},
		{"Beats", func(x call) answer { return answer{ok: pairs.Beats(x.a, x.x, x.y)} }, func(x call) answer { return answer{ok: modelBeats(x.a, x.x, x.y)} }},
		{"Sum", func(x call) answer { return matrixAnswer(pairs.Sum(x.a, x.b)) }, func(x call) answer { return matrixAnswer(modelSum(x.a, x.b)) }},
		{"Turn", func(x call) answer { return answer{m: pairs.Turn(x.a)} }, func(x call) answer { return answer{m: modelTurn(x.a)} }},
		{"Rename", func(x call) answer { return matrixAnswer(pairs.Rename(x.a, x.perm)) }, func(x call) answer { return matrixAnswer(modelRename(x.a, x.perm)) }},
		{"Wins", func(x call) answer { return listAnswer(pairs.Wins(x.a, x.cands)) }, func(x call) answer { return listAnswer(modelWins(x.a, x.cands)) }},
	}
}

// roomy returns p in memory of its own, with rows behind its length, and numbers behind those of the marks.
func roomy(p api.Profile) api.Profile {
	var rows []api.Row
	for _, r := range slices.Concat(p.Rows, []api.Row{row(3), row(1, 0), row(-7, 5, 5)}) {
		rows = append(rows, api.Row{Marks: roomyInts(r.Marks), Many: r.Many})
	}
	p.Rows = rows[:len(p.Rows)]
	return p
}

func roomyInts(l []int) []int { return append(slices.Clone(l), 1, 0, 7, -1, 1000)[:len(l)] }

// rightProfiles are valid.
func rightProfiles() []api.Profile {
	return []api.Profile{of(3, 1), of(3, 1, row(3, 0, 1), row(2, 1, 2)), of(3, 1, row(3), row(1, 0, 1, 2), row(2, 2, 0, 1)), of(3, 2, row(4), row(1, 0, 1), row(2, 1, 2)),
		of(3, 3, row(1, 0, 0, 0), row(4, 3, 0, 10)), fullProfile(64), fullProfile(1000000), of(1, 1, row(1000000)), of(10, 2, row(5, 0, 9)), chain(10, 1000000)}
}

// someProfiles are valid and not.
func someProfiles() []api.Profile {
	l := rightProfiles()
	for _, e := range []api.Errno{api.ErrFull, api.ErrBad, api.ErrMany} {
		l = append(l, wrongProfiles()[e]...)
	}
	return l
}

// someMatrices are valid among three candidates, among ten, and not.
func someMatrices() []api.Pairs {
	l := []api.Pairs{{}, example(), pairs.Turn(example()), every(3, 500000), ladder(3, 1000000), ladder(4, 2), every(10, 5), ladder(10, 1000000), every(2, 1)}
	return append(l, wrongMatrices()[:40]...)
}

// calls returns calls of each of the package's functions, right and wrong, with lists that have room behind them.
func calls() []call {
	var all []call
	profiles, matrices := someProfiles(), someMatrices()
	perms := append(wrongPerms()[:30], []int{0}, []int{1, 0}, []int{2, 0, 1}, []int{0, 1, 2}, []int{1, 2, 3, 0}, []int{9, 8, 7, 6, 5, 4, 3, 2, 1, 0}, upTo(10))
	for i := range 400 {
		x := call{p: profiles[i%len(profiles)], a: matrices[i%len(matrices)], b: matrices[(i/5)%len(matrices)], perm: perms[i%len(perms)], cands: i%14 - 2, x: i%13 - 1, y: i/7%13 - 1}
		for _, o := range operations() {
			y := x
			y.name, y.do, y.model = fmt.Sprint(o.name, " ", i), o.do, o.model
			y.p, y.perm = roomy(x.p), roomyInts(x.perm)
			all = append(all, y)
		}
	}
	return all
}

func TestCallsHaveTheModelsAnswers(t *testing.T) {
	seen := map[api.Errno]int{}
	for _, x := range calls() {
		a, want := x.do(x), x.model(x)
		if !a.equal(want) {
			t.Errorf("%s: %v; want %v", x.name, a, want)
		}
		seen[a.e]++
	}
	for _, e := range []api.Errno{api.OK, api.ErrArg, api.ErrMany, api.ErrBad, api.ErrFull} {
		if seen[e] < 5 {
			t.Errorf("the calls have the errors %v", seen)
		}
	}
}

// R1

func TestR1ErrorsComeInOrder(t *testing.T) {
	wrong := every(10, -1)
	many := ladder(10, 1000000)
	for _, c := range []struct {
		name string
		e    api.Errno
		want api.Errno
	}{
		{"Of: rows, then what is wrong in them", errorOf(pairs.Of(of(0, 9, slices.Repeat([]api.Row{row(-1, 7)}, 65)...))), api.ErrFull},
		{"Of: what is wrong, then how many", errorOf(pairs.Of(of(3, 1, row(2000000, 1), row(1, 0)))), api.ErrBad},
		{"Of: how many", errorOf(pairs.Of(of(3, 1, row(2000000, 0), row(1, 1)))), api.ErrMany},
		{"Sum: the first, which is wrong, and too many", errorOf(pairs.Sum(every(10, 1000000), many)), api.ErrBad},
		{"Sum: the second, which is wrong, and too many", errorOf(pairs.Sum(many, every(10, 1000000))), api.ErrBad},
		{"Sum: too many", errorOf(pairs.Sum(many, many)), api.ErrMany},
		{"Rename: the permutation, then the matrix", errorOf(pairs.Rename(wrong, []int{0, 0})), api.ErrArg},
		{"Rename: no permutation, then the matrix", errorOf(pairs.Rename(wrong, nil)), api.ErrArg},
		{"Rename: a long permutation, then the matrix", errorOf(pairs.Rename(wrong, upTo(11))), api.ErrArg},
		{"Rename: the matrix", errorOf(pairs.Rename(wrong, []int{1, 0})), api.ErrBad},
		{"Wins: the number, then the matrix", errorOf(pairs.Wins(wrong, 0)), api.ErrArg},
		{"Wins: a great number, then the matrix", errorOf(pairs.Wins(wrong, 11)), api.ErrArg},
		{"Wins: the matrix", errorOf(pairs.Wins(wrong, 10)), api.ErrBad},
	} {
		if c.e != c.want {
			t.Errorf("%s: error %d; want %d", c.name, int(c.e), int(c.want))
		}
	}
}

func errorOf[T any](_ T, e api.Errno) api.Errno { return e }

// The numbers of the errors are those of the document.
func TestR1ErrorNumbers(t *testing.T) {
	numbers := []int{int(errorOf(pairs.Wins(api.Pairs{}, 0))), int(errorOf(pairs.Sum(ladder(2, 1000000), ladder(2, 1)))), int(errorOf(pairs.Wins(every(3, 1), 2))), int(errorOf(pairs.Of(of(3, 1, make([]api.Row, 65)...)))), int(errorOf(pairs.Of(of(1, 1))))}
	if !slices.Equal(numbers, []int{2, 4, 8, 9, 0}) {
		t.Errorf("the errors are %v", numbers)
	}
}

func TestR1NothingBesideAnError(t *testing.T) {
	failed := 0
	for _, x := range calls() {
		if a := x.do(x); a.e != api.OK {
			failed++
			if a.m != (api.Pairs{}) || len(a.l) > 0 || a.n != 0 || a.ok {
				t.Errorf("%s: %v beside error %d", x.name, a, int(a.e))
			}
		}
	}
	if failed < 500 {
		t.Errorf("%d calls fail", failed)
	}
}

// R2

// arguments returns a text of all that a call's arguments hold, up to the capacities.
func (x call) arguments() string {
	s := fmt.Sprint(x.p.Cands, x.p.Kind, x.a, x.b, len(x.perm), x.perm[:cap(x.perm)])
	for _, r := range x.p.Rows[:cap(x.p.Rows)] {
		s += fmt.Sprint(len(r.Marks), r.Marks[:cap(r.Marks)], r.Many)
	}
	return s
}

func scribbleInts(l []int) {
	for i := range l[:cap(l)] {
		l[:cap(l)][i] ^= 0x5a5
	}
}

// scribble overwrites the memory of all arguments.
func (x call) scribble() {
	scribbleInts(x.perm)
	for i, r := range x.p.Rows[:cap(x.p.Rows)] {
		scribbleInts(r.Marks)
		x.p.Rows[:cap(x.p.Rows)][i] = row(r.Many^0x5a5, 99)
	}
}

func TestR2ArgumentsStay(t *testing.T) {
	for _, x := range calls() {
		before := x.arguments()
		x.do(x)
		if x.arguments() != before {
			t.Errorf("%s: the memory of an argument changes", x.name)
		}
	}
}

func TestR2AnswersShareNothingWithArguments(t *testing.T) {
	lists := 0
	for _, x := range calls() {
		before := x.arguments()
		a := x.do(x)
		want := a.twin()
		_ = append(a.l, 5)
		scribbleInts(a.l)
		a.m[0][1]++
		if x.arguments() != before {
			t.Errorf("%s: an argument changes with the answer", x.name)
		}
		a = x.do(x)
		x.scribble()
		if !a.equal(want) {
			t.Errorf("%s: the answer changes with the arguments", x.name)
		}
		lists += len(want.l)
	}
	if lists < 100 {
		t.Errorf("the lists of answers have %d numbers", lists)
	}
}

// The lists of two answers have each its own memory, up to the capacity.
func TestR2AnswersShareNothingWithEachOther(t *testing.T) {
	type span struct{ start, end uintptr }
	var all [][]int
	var spans []span
	for n := 1; n <= 10; n++ {
		for range 3 {
			l, _ := pairs.Wins(ladder(n, 1), n)
			all = append(all, l)
			start := uintptr(unsafe.Pointer(unsafe.SliceData(l)))
			spans = append(spans, span{start, start + uintptr(cap(l))*unsafe.Sizeof(0)})
		}
	}
	for i, s := range spans {
		for _, o := range spans[:i] {
			if s.start < o.end && o.start < s.end {
				t.Errorf("two lists share memory")
			}
		}
	}
	runtime.KeepAlive(all)
}

// A second answer depends neither on the first, nor on what became of it, nor on calls between.
func TestR2NothingIsKept(t *testing.T) {
	others := calls()
	for i, x := range calls() {
		first := x.do(x)
		want := first.twin()
		scribbleInts(first.l)
		for j := i % 97; j < len(others); j += 97 {
			others[j].do(others[j])
		}
		if again := x.do(x); !again.equal(want) {
			t.Errorf("%s: the second answer is %v; want %v", x.name, again, want)
		}
	}
}

// Rows may share their memory with each other, and with a permutation.
func TestR2OneMemory(t *testing.T) {
	l := []int{0, 1, 2, 1}
	p := of(3, 1, api.Row{Marks: l[:0], Many: 1}, api.Row{Marks: l[:1], Many: 2}, api.Row{Marks: l[:2], Many: 3}, api.Row{Marks: l[1:3], Many: 4}, api.Row{Marks: l[2:], Many: 5})
	want := matrix([]int{0, 5, 5}, []int{9, 0, 7}, []int{9, 5, 0})
	checkOf(t, p, want, api.OK)
	checkRename(t, want, l[:3], want, api.OK)
	checkRename(t, want, l[:4], api.Pairs{}, api.ErrArg)
	if !slices.Equal(l, []int{0, 1, 2, 1}) {
		t.Errorf("the arguments become %v", l)
	}
}

// R3

func TestR3NilAndEmptyAreEqual(t *testing.T) {
	for _, none := range [][]int{nil, {}, upTo(3)[:0], make([]int, 0, 20)} {
		checkRename(t, example(), none, api.Pairs{}, api.ErrArg)
		checkRename(t, api.Pairs{}, none, api.Pairs{}, api.ErrArg)
		for kind := uint8(1); kind <= 2; kind++ {
			blank := api.Row{Marks: none, Many: 3}
			checkOf(t, of(3, kind, blank), api.Pairs{}, api.OK)
			checkOf(t, of(3, kind, blank, row(2, 0)), matrix([]int{0, 2, 2}), api.OK)
			checkOf(t, of(3, kind, blank, blank), api.Pairs{}, api.ErrBad)
		}
		checkOf(t, of(3, 3, api.Row{Marks: none, Many: 3}), api.Pairs{}, api.ErrBad)
	}
	for _, rows := range [][]api.Row{nil, {}, make([]api.Row, 0, 5), make([]api.Row, 70)[:0]} {
		checkOf(t, of(3, 2, rows...), api.Pairs{}, api.OK)
	}
}

// R5

// The numbers of Wins are those of the candidates in their order, one of each.
func TestR5Order(t *testing.T) {
	random := rand.New(rand.NewSource(128))
	for n := 1; n <= 10; n++ {
		for range 20 {
			perm := random.Perm(n)
			m, e := pairs.Rename(ladder(n, 1), perm)
			if e != api.OK {
				t.Fatal(e)
			}
			want := make([]int, n)
			for place, c := range perm {
				want[c] = n - 1 - place
			}
			checkWins(t, m, n, want, api.OK)
		}
	}
}

// R6

// Numbers are taken as they are, and not in fewer bits, nor added until they are less again.
func TestR6NothingOverflows(t *testing.T) {
	m := example()
	for _, size := range []int{8, 16, 20, 31, 32, 33, 62} {
		for more := range 4 {
			wide := 1<<size + more
			checkRight(t, m, wide, false)
			checkRight(t, m, more-1<<size, false)
			checkWins(t, m, wide, nil, api.ErrArg)
			checkWins(t, m, more-1<<size, nil, api.ErrArg)
			checkMargin(t, m, wide, 1, 0)
			checkMargin(t, m, 0, wide, 0)
			checkMargin(t, m, more-1<<size, 1, 0)
			checkRename(t, m, []int{0, 1, wide}, api.Pairs{}, api.ErrArg)
			checkRename(t, m, []int{0, 1, more - 1<<size}, api.Pairs{}, api.ErrArg)
			checkOf(t, of(wide+3, 1, row(1, 0)), api.Pairs{}, api.ErrBad)
			if wide > 1000000 {
				checkRight(t, with(m, 0, 1, wide), 3, false)
				checkMargin(t, with(m, 0, 1, wide), 1, 2, 0)
				checkSum(t, with(m, 0, 1, wide), m, api.Pairs{}, api.ErrBad)
				checkOf(t, of(3, 1, row(1, 0), row(wide, 1)), api.Pairs{}, api.ErrMany)
			}
			checkRight(t, with(m, 0, 1, more-1<<size), 3, false)
		}
	}
	for _, n := range []int{math.MaxInt, math.MaxInt - 1, 1 << 62, 1<<62 + 500000} {
		for back := range 5 {
			for _, other := range []int{math.MaxInt - back, math.MinInt + back, 2 + back, -n - back, 1<<62 + back} {
				m := with(with(api.Pairs{}, 3, 1, n), 1, 3, other)
				checkRight(t, m, 4, false)
				checkMargin(t, m, 3, 1, 0)
				checkMargin(t, m, 1, 3, 0)
				checkSum(t, m, m, api.Pairs{}, api.ErrBad)
				checkWins(t, m, 4, nil, api.ErrBad)
				checkRename(t, m, upTo(4), api.Pairs{}, api.ErrBad)
				checkTurn(t, m, with(with(api.Pairs{}, 1, 3, n), 3, 1, other))
			}
		}
	}
}

// R7

// A panic or an endless call would fail the test by itself.
func TestR7AnyArguments(t *testing.T) {
	long := upTo(300)
	profiles := append(someProfiles(), of(math.MinInt, 255, row(math.MinInt, math.MinInt)), of(3, 1, make([]api.Row, 300)...), of(3, 1, row(1, long...)), of(3, 2, row(1, long...)), of(3, 3, row(1, long...)))
	matrices := someMatrices()
	for i, wild := range append(wilds(), 3, 4, 5) {
		for j, other := range wilds() {
			x := call{p: profiles[(i+j)%len(profiles)], a: matrices[(i+2*j)%len(matrices)], b: matrices[j%len(matrices)], perm: []int{wild, other, 1}, cands: wild, x: wild, y: other}
			if i%2 == 0 {
				x.a[i%10][j%10], x.b[j%10][i%10] = wild, other
			}
			if j%3 == 0 {
				x.perm = long[:max(0, min(wild, 300))]
			}
			for _, o := range operations() {
				if a, want := o.do(x), o.model(x); !a.equal(want) {
					t.Errorf("%s of %s, %v and %v: %v; want %v", o.name, show(x.p), x.a, x.b, a, want)
				}
			}
		}
	}
}

func TestR7GreatArguments(t *testing.T) {
	long := upTo(1 << 18)
	checkOf(t, of(3, 1, row(1, long...)), api.Pairs{}, api.ErrBad)
	checkOf(t, of(3, 2, row(1, long...)), api.Pairs{}, api.ErrBad)
	checkOf(t, of(3, 3, row(1, long...)), api.Pairs{}, api.ErrBad)
	checkOf(t, of(3, 1, make([]api.Row, 1<<18)...), api.Pairs{}, api.ErrFull)
	checkOf(t, of(10, 1, slices.Repeat([]api.Row{row(1, long...)}, 64)...), api.Pairs{}, api.ErrBad)
	for _, m := range []api.Pairs{{}, example(), every(10, -1)} {
		if renamed, e := pairs.Rename(m, long); renamed != (api.Pairs{}) || e != api.ErrArg {
			t.Errorf("Rename with a long list: %v, %d", renamed, int(e))
		}
	}
}

func TestR7RandomCalls(t *testing.T) {
	random := rand.New(rand.NewSource(129))
	for range 3000 {
		x := call{p: randomProfile(random), a: randomMatrix(random, 1+random.Intn(10)), b: randomMatrix(random, 1+random.Intn(10)), perm: random.Perm(random.Intn(12)), cands: random.Intn(14) - 2, x: random.Intn(12) - 1, y: random.Intn(12) - 1}
		for range random.Intn(3) {
			x.p, x.a, x.b = spoiltProfile(random, x.p), spoiltMatrix(random, x.a), spoiltMatrix(random, x.b)
		}
		if random.Intn(3) == 0 {
			x.x, x.cands = randomWild(random), randomWild(random)
		}
		for _, o := range operations() {
			if a, want := o.do(x), o.model(x); !a.equal(want) {
				t.Errorf("%s of %s, %v and %v: %v; want %v", o.name, show(x.p), x.a, x.b, a, want)
			}
		}
	}
}
