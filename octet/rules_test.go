package octet_test

import (
	"bytes"
	"math"
	"testing"

	"suffrage/api"
	"suffrage/octet"
)

// answer is all that a call returns, in one form for all calls.
type answer struct {
	number uint64
	next   int
	lists  [][]byte
	e      api.Errno
}

func (a answer) equal(b answer) bool {
	return a.number == b.number && a.next == b.next && equalLists(a.lists, b.lists) && a.e == b.e
}

func (a answer) twin() answer {
	l := make([][]byte, len(a.lists))
	for i := range l {
		l[i] = bytes.Clone(a.lists[i])
	}
	a.lists = l
	return a
}

// whole returns the memory of b up to its capacity.
func whole(b []byte) []byte { return b[:cap(b)] }

// scribble overwrites the memory of b up to its capacity.
func scribble(b []byte) {
	for i := range whole(b) {
		whole(b)[i] ^= 0xa5
	}
}

// call is a call whose byte strings are in args.
type call struct {
	name string
	args [][]byte
	do   func(args [][]byte) answer
}

// roomy returns the bytes with memory behind them.
func roomy(b ...byte) []byte {
	return append(append(make([]byte, 0, len(b)+40), b...), bytes.Repeat([]byte{0xee}, 40)...)[:len(b)]
}

func putCall(n uint64, size int) func([][]byte) answer {
	return func(a [][]byte) answer {
		out, e := octet.Put(a[0], n, size)
		return answer{lists: [][]byte{out}, e: e}
	}
}

func takeCall(at, size int) func([][]byte) answer {
	return func(a [][]byte) answer {
		n, next, e := octet.Take(a[0], at, size)
		return answer{number: n, next: next, e: e}
	}
}

func putFieldCall(a [][]byte) answer {
	out, e := octet.PutField(a[0], a[1])
	return answer{lists: [][]byte{out}, e: e}
}

func takeFieldCall(at int) func([][]byte) answer {
	return func(a [][]byte) answer {
		field, next, e := octet.TakeField(a[0], at)
		return answer{lists: [][]byte{field}, next: next, e: e}
	}
}

func splitCall(a [][]byte) answer {
	l, e := octet.Split(a[0])
	return answer{lists: l, e: e}
}

func joinCall(a [][]byte) answer {
	out, e := octet.Join(a)
	return answer{lists: [][]byte{out}, e: e}
}

// calls returns each of the package's calls, with arguments that have room behind them, right and wrong.
func calls() []call {
	return []call{
		{"Put", [][]byte{roomy(7)}, putCall(258, 2)},
		{"Put after nothing", [][]byte{roomy()}, putCall(1<<63, 8)},
		{"Put of what does not fit", [][]byte{roomy(7)}, putCall(258, 1)},
		{"Put in a wrong size", [][]byte{roomy(7)}, putCall(258, 9)},
		{"Put of too much", [][]byte{roomy(filled(api.MaxText)...)}, putCall(1, 1)},
		{"Take", [][]byte{roomy(9, 1, 2)}, takeCall(1, 2)},
		{"Take of short input", [][]byte{roomy(9, 1, 2)}, takeCall(2, 2)},
		{"Take at a wrong index", [][]byte{roomy(9, 1, 2)}, takeCall(4, 2)},
		{"PutField", [][]byte{roomy(7), roomy(5, 6)}, putFieldCall},
		{"PutField of nothing", [][]byte{roomy(), roomy()}, putFieldCall},
		{"PutField of too much", [][]byte{roomy(7), roomy(filled(65536)...)}, putFieldCall},
		{"TakeField", [][]byte{roomy(9, 0, 2, 5, 6, 4)}, takeFieldCall(1)},
		{"TakeField of nothing", [][]byte{roomy(9, 0, 0, 4)}, takeFieldCall(1)},
		{"TakeField at the end", [][]byte{roomy(0, 2, 5, 6)}, takeFieldCall(0)},
		{"TakeField of short input", [][]byte{roomy(0, 3, 5, 6)}, takeFieldCall(0)},
		{"TakeField at a wrong index", [][]byte{roomy(0, 2, 5, 6)}, takeFieldCall(-1)},
		{"Split", [][]byte{roomy(0, 2, 5, 6, 0, 0, 0, 1, 9, 0, 3, 1, 2, 3)}, splitCall},
		{"Split of one", [][]byte{roomy(0, 2, 5, 6)}, splitCall},
		{"Split of nothing", [][]byte{roomy()}, splitCall},
		{"Split of short input", [][]byte{roomy(0, 1, 9, 0, 2, 5)}, splitCall},
		{"Split of too much", [][]byte{roomy(make([]byte, api.MaxText+2)...)}, splitCall},
		{"Join", [][]byte{roomy(5, 6), roomy(), roomy(9)}, joinCall},
		{"Join of one", [][]byte{roomy(5, 6)}, joinCall},
		{"Join of nothing", [][]byte{}, joinCall},
		{"Join of too much", [][]byte{roomy(5, 6), roomy(filled(api.MaxText)...)}, joinCall},
	}
}

// R1

func TestR1ErrorsInOrder(t *testing.T) {
	long := make([]byte, api.MaxText+1)
	for _, size := range wrongSizes {
		if _, e := octet.Put(long, 1, size); e != api.ErrArg {
			t.Errorf("Put in %d bytes behind too much: %d; want ErrArg", size, int(e))
		}
	}
	if _, e := octet.Put(long, 256, 1); e != api.ErrArg {
		t.Errorf("Put of what does not fit, behind too much: %d; want ErrArg", int(e))
	}
	wantTake(t, nil, 0, 0, api.ErrArg)
	wantTake(t, []byte{1}, 1, 9, api.ErrArg)
	wantTake(t, []byte{1}, 2, 8, api.ErrArg)
	wantTake(t, []byte{1}, -1, 8, api.ErrArg)
	wantTakeField(t, []byte{0, 9}, 3, api.ErrArg)
	wantTakeField(t, []byte{0, 9}, -1, api.ErrArg)
	wantSplit(t, append(make([]byte, api.MaxText-1), 1, 1), api.ErrMany)
}

func TestR1NothingBesideAnError(t *testing.T) {
	failed := 0
	for _, c := range calls() {
		a := c.do(c.args)
		if a.e == api.OK {
			continue
		}
		failed++
		rest := 0
		for _, b := range a.lists {
			rest += len(b)
		}
		if a.number != 0 || a.next != 0 || rest != 0 {
			t.Errorf("%s: %v beside an error", c.name, a)
		}
	}
	if failed != 11 {
		t.Errorf("%d calls failed; want 11", failed)
	}
}

// R2

func TestR2ArgumentsStay(t *testing.T) {
	for _, c := range calls() {
		var before, heads [][]byte
		for _, b := range c.args {
			before = append(before, bytes.Clone(whole(b)))
			heads = append(heads, b)
		}
		c.do(c.args)
		for i, b := range c.args {
			if !bytes.Equal(whole(heads[i]), before[i]) {
				t.Errorf("%s changes the memory of argument %d", c.name, i)
			}
			if len(b) != len(heads[i]) || cap(b) > 0 && &whole(b)[0] != &whole(heads[i])[0] {
				t.Errorf("%s exchanges argument %d", c.name, i)
			}
		}
	}
}

// The elements of a list may have room behind them too, and so may the list.
func TestR2ListsStay(t *testing.T) {
	l := [][]byte{roomy(1), roomy(2), roomy(3), roomy(4)}
	b := join(t, l[:2])
	if !bytes.Equal(b, []byte{0, 1, 1, 0, 1, 2}) {
		t.Errorf("Join of two of four = %v", b)
	}
	for i, x := range l {
		if !bytes.Equal(x, []byte{byte(i + 1)}) {
			t.Errorf("Join changes element %d of the list's memory: %v", i, x)
		}
	}
}

func TestR2AnswersShareNothingWithArguments(t *testing.T) {
	for _, c := range calls() {
		a := c.do(c.args)
		want := a.twin()
		for _, b := range c.args {
			scribble(b)
		}
		if !a.equal(want) {
			t.Errorf("%s: the answer changes with an argument", c.name)
		}
		var before [][]byte
		for _, b := range c.args {
			before = append(before, bytes.Clone(whole(b)))
		}
		for _, b := range a.lists {
			scribble(b)
		}
		for i, b := range c.args {
			if !bytes.Equal(whole(b), before[i]) {
				t.Errorf("%s: argument %d changes with the answer", c.name, i)
			}
		}
	}
}

func TestR2ListsOfAnAnswerShareNothing(t *testing.T) {
	l, e := octet.Split([]byte{0, 2, 5, 6, 0, 0, 0, 1, 9, 0, 3, 1, 2, 3})
	if e != api.OK || len(l) != 4 {
		t.Fatal(l, int(e))
	}
	for i := range l {
		want := answer{lists: l}.twin()
		scribble(l[i])
		for j := range l {
			if j != i && !bytes.Equal(l[j], want.lists[j]) {
				t.Errorf("element %d changes with element %d", j, i)
			}
		}
	}
}

// Lists may hold one string several times, and one string may be both arguments.
func TestR2OneStringTwice(t *testing.T) {
	x := roomy(5, 6)
	if out, e := octet.PutField(x, x); e != api.OK || !bytes.Equal(out, []byte{5, 6, 0, 2, 5, 6}) {
		t.Errorf("PutField(x, x) = %v, %d", out, int(e))
	}
	if out := join(t, [][]byte{x, x[:1], x}); !bytes.Equal(out, []byte{0, 2, 5, 6, 0, 1, 5, 0, 2, 5, 6}) {
		t.Errorf("Join(x, x[:1], x) = %v", out)
	}
	behind := whole(x)[len(x):]
	if out, e := octet.PutField(x, behind[:2]); e != api.OK || !bytes.Equal(out, []byte{5, 6, 0, 2, 0xee, 0xee}) {
		t.Errorf("PutField of x and what lies behind it = %v, %d", out, int(e))
	}
}

// A second answer depends neither on the first, nor on what became of it, nor on calls between.
func TestR2NothingIsKept(t *testing.T) {
	for _, c := range calls() {
		first := c.do(c.args)
		want := first.twin()
		for _, b := range first.lists {
			scribble(b)
		}
		for _, d := range calls() {
			d.do(d.args)
		}
		again := c.do(c.args)
		if !again.equal(want) {
			t.Errorf("%s: the second answer is %v; want %v", c.name, again, want)
		}
		for _, b := range first.lists {
			scribble(b)
		}
		if !again.equal(want) {
			t.Errorf("%s: the second answer shares memory with the first", c.name)
		}
	}
}

// R3

func TestR3NilAndEmptyAreEqual(t *testing.T) {
	for _, do := range []func([][]byte) answer{
		putCall(258, 2), putCall(258, 1), takeCall(0, 1), takeCall(1, 1), takeFieldCall(0), takeFieldCall(1), splitCall, joinCall,
	} {
		if a, b := do([][]byte{nil}), do([][]byte{{}}); !a.equal(b) {
			t.Errorf("of nil %v, of an empty string %v", a, b)
		}
	}
	if a, b := putFieldCall([][]byte{nil, nil}), putFieldCall([][]byte{{}, {}}); !a.equal(b) || a.e != api.OK {
		t.Errorf("PutField of nil %v, of empty strings %v", a, b)
	}
	if a, b := joinCall(nil), joinCall([][]byte{}); !a.equal(b) || a.e != api.OK || len(a.lists[0]) != 0 {
		t.Errorf("Join of nil %v, of an empty list %v", a, b)
	}
}

// R4

func TestR4MostSignificantFirst(t *testing.T) {
	for size := 1; size <= 8; size++ {
		n := uint64(0)
		for i := range size {
			n = n*256 + uint64(10+i)
		}
		b := put(t, nil, n, size)
		for i, x := range b {
			if int(x) != 10+i {
				t.Errorf("Put(nil, %d, %d) = %v", n, size, b)
			}
		}
		if got, _, e := octet.Take(b, 0, size); e != api.OK || got != n {
			t.Errorf("Take(%v) = %d, %d; want %d", b, got, int(e), n)
		}
	}
	if b, e := octet.PutField(nil, make([]byte, 258)); e != api.OK || b[0] != 1 || b[1] != 2 {
		t.Errorf("the length of a field of 258 bytes: %v, %d", b[:2], int(e))
	}
}

// R5

func TestR5FieldsInOrder(t *testing.T) {
	var l [][]byte
	for i := range 200 {
		l = append(l, bytes.Repeat([]byte{byte(i)}, (i*7)%11))
	}
	back, e := octet.Split(join(t, l))
	if e != api.OK || !equalLists(back, l) {
		t.Errorf("Split of a join of 200: %d elements, %d", len(back), int(e))
	}
}

// R6

func TestR6NothingOverflows(t *testing.T) {
	b := filled(12)
	for _, at := range []int{math.MaxInt, math.MaxInt - 1, math.MaxInt - 8, math.MaxInt - 12, math.MinInt, math.MinInt + 8} {
		for size := 1; size <= 8; size++ {
			wantTake(t, b, at, size, api.ErrArg)
		}
		wantTakeField(t, b, at, api.ErrArg)
	}
	for _, size := range []int{math.MaxInt, math.MaxInt / 8, math.MinInt, 1 << 61, 1<<61 + 1, 1 << 32, 1<<32 + 1} {
		if _, e := octet.Put(b, 0, size); e != api.ErrArg {
			t.Errorf("Put in %d bytes: %d; want ErrArg", size, int(e))
		}
		wantTake(t, b, 0, size, api.ErrArg)
	}
	if got, _, e := octet.Take(put(t, nil, math.MaxUint64, 8), 0, 8); e != api.OK || got != math.MaxUint64 {
		t.Errorf("the greatest integer comes back as %d, %d", got, int(e))
	}
}

// R7

// A panic or an endless call would fail the test by itself.
func TestR7AnyArguments(t *testing.T) {
	extremes := []int{math.MinInt, math.MinInt + 1, math.MaxInt - 1, math.MaxInt}
	ints := append([]int{}, extremes...)
	for i := -3; i <= 12; i++ {
		ints = append(ints, i)
	}
	for _, b := range [][]byte{nil, {}, {0}, {255}, {0, 0}, {0, 1}, {255, 255}, {0, 1, 9, 0}, filled(9), make([]byte, 70000)} {
		for _, i := range ints {
			for _, size := range ints {
				octet.Take(b, i, size)
				octet.Put(b, uint64(i), size)
			}
			octet.TakeField(b, i)
		}
		octet.PutField(b, b)
		octet.Split(b)
		octet.Join([][]byte{b, nil, b})
	}
}
