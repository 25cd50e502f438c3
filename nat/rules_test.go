package nat_test

import (
	"math"
	"math/big"
	"slices"
	"strings"
	"testing"

	"suffrage/api"
	"suffrage/nat"
)

// argument is a number, or what is none, with its error.
type argument struct {
	name string
	a    []uint32
	e    api.Errno
}

// invalid returns slices that are no valid numbers.
func invalid() []argument {
	return []argument{
		{"0 with a limb", []uint32{0}, api.ErrBad},
		{"a last limb of 0", []uint32{5, 0}, api.ErrBad},
		{"three limbs of 0", []uint32{0, 0, 0}, api.ErrBad},
		{"MaxLimbs limbs, the last one 0", append(filled(api.MaxLimbs-1, most), 0), api.ErrBad},
		{"a limb too many", filled(api.MaxLimbs+1, 1), api.ErrMany},
		{"far too many limbs", filled(100000, most), api.ErrMany},
		{"a limb too many, the last one 0", append(filled(api.MaxLimbs, 1), 0), api.ErrMany},
		{"far too many limbs of 0", make([]uint32, 100000), api.ErrMany},
	}
}

// valid returns valid numbers with which an operation may return errors of its own.
func valid() []argument {
	return []argument{{"nil", nil, api.OK}, {"empty", []uint32{}, api.OK}, {"1", []uint32{1}, api.OK}, {"2^64", power(2), api.OK}, {"all", filled(api.MaxLimbs, most), api.OK}}
}

// whole returns the memory of a up to its capacity.
func whole(a []uint32) []uint32 { return a[:cap(a)] }

// scribble overwrites the memory of a up to its capacity.
func scribble(a []uint32) {
	for i := range whole(a) {
		whole(a)[i] ^= 0xa5a5a5a5
	}
}

// roomy returns a copy of a with memory behind it.
func roomy(a ...uint32) []uint32 {
	return append(slices.Clone(a), filled(120, 0xeeeeeeee)...)[:len(a)]
}

func (a answer) twin() answer {
	l := make([][]uint32, len(a.numbers))
	for i, n := range a.numbers {
		l[i] = slices.Clone(n)
	}
	a.numbers = l
	return a
}

// call is a call whose numbers are in args.
type call struct {
	name string
	args [][]uint32
	do   func(args [][]uint32) answer
}

func checkCall(a [][]uint32) answer { return answer{e: nat.Check(a[0])} }

func wordCall(a [][]uint32) answer {
	n, e := nat.Word(a[0])
	return answer{word: n, e: e}
}

func sameCall(a [][]uint32) answer { return answer{same: nat.Same(a[0], a[1])} }

func textCall(a [][]uint32) answer {
	s, e := nat.Text(a[0])
	return answer{text: s, e: e}
}

func ofCall(n uint64) func([][]uint32) answer {
	return func([][]uint32) answer { return one(nat.Of(n), api.OK) }
}

func readCall(s string) func([][]uint32) answer {
	return func([][]uint32) answer { return one(nat.Read(s)) }
}

// singles returns the calls for one number.
func singles() []call {
	return []call{{"Check", nil, checkCall}, {"Word", nil, wordCall}, {"Text", nil, textCall}}
}

// doubles returns the calls for two numbers.
func doubles() []call {
	l := []call{{"Same", nil, sameCall}}
	for _, o := range operations() {
		l = append(l, call{o.name, nil, func(a [][]uint32) answer { return o.do(a[0], a[1]) }})
	}
	return l
}

// calls returns each of the package's calls, with arguments that have room behind them, right and wrong.
func calls() []call {
	numbers := []argument{{"5, 6, 7", []uint32{5, 6, 7}, api.OK}, {"6, 7", []uint32{6, 7}, api.OK}, {"6 and the greatest limbs", []uint32{6, most, most, most}, api.OK}}
	numbers = append(numbers, append(valid(), invalid()...)...)
	l := []call{{"Of 0", nil, ofCall(0)}, {"Of 7", nil, ofCall(7)}, {"Of the greatest", nil, ofCall(math.MaxUint64)}}
	for _, s := range []string{"0", "7", "18446744073709551616", strings.Repeat("9", 900), strings.Repeat("9", 930), "07", ""} {
		l = append(l, call{"Read " + s, nil, readCall(s)})
	}
	for _, a := range numbers {
		for _, c := range singles() {
			l = append(l, call{c.name + " of " + a.name, [][]uint32{roomy(a.a...)}, c.do})
		}
		for _, b := range numbers {
			for _, c := range doubles() {
				l = append(l, call{c.name + " of " + a.name + " and " + b.name, [][]uint32{roomy(a.a...), roomy(b.a...)}, c.do})
			}
		}
	}
	return l
}

// R1

// The error of the first number comes before that of the second one, and both before those of the operation.
func TestR1ErrorsInOrder(t *testing.T) {
	for _, o := range operations() {
		for _, bad := range invalid() {
			for _, other := range invalid() {
				if got := o.do(bad.a, other.a); !got.isError(bad.e) {
					t.Errorf("%s of %s and of %s: %v; want error %d", o.name, bad.name, other.name, got, int(bad.e))
				}
			}
			for _, good := range valid() {
				if got := o.do(bad.a, good.a); !got.isError(bad.e) {
					t.Errorf("%s of %s and of %s: %v; want error %d", o.name, bad.name, good.name, got, int(bad.e))
				}
				if got := o.do(good.a, bad.a); !got.isError(bad.e) {
					t.Errorf("%s of %s and of %s: %v; want error %d", o.name, good.name, bad.name, got, int(bad.e))
				}
			}
		}
	}
}

func TestR1NothingBesideAnError(t *testing.T) {
	failed := 0
	for _, c := range calls() {
		a := c.do(c.args)
		if a.e == api.OK {
			continue
		}
		failed++
		if !a.isError(a.e) {
			t.Errorf("%s: %v beside an error", c.name, a)
		}
	}
	if failed == 0 {
		t.Error("no call failed")
	}
}

// R2

func TestR2ArgumentsStay(t *testing.T) {
	for _, c := range calls() {
		var before [][]uint32
		for _, a := range c.args {
			before = append(before, slices.Clone(whole(a)))
		}
		c.do(c.args)
		for i, a := range c.args {
			if !slices.Equal(whole(a), before[i]) {
				t.Errorf("%s changes the memory of argument %d", c.name, i)
			}
		}
	}
}

func TestR2AnswersShareNothingWithArguments(t *testing.T) {
	for _, c := range calls() {
		a := c.do(c.args)
		want := a.twin()
		for _, n := range c.args {
			scribble(n)
		}
		if !a.equal(want) {
			t.Errorf("%s: the answer changes with an argument", c.name)
		}
		var before [][]uint32
		for _, n := range c.args {
			before = append(before, slices.Clone(whole(n)))
		}
		for _, n := range a.numbers {
			scribble(n)
		}
		for i, n := range c.args {
			if !slices.Equal(whole(n), before[i]) {
				t.Errorf("%s: argument %d changes with the answer", c.name, i)
			}
		}
	}
}

func TestR2NumbersOfAnAnswerShareNothing(t *testing.T) {
	divisions := 0
	for _, c := range calls() {
		a := c.do(c.args)
		if len(a.numbers) != 2 {
			continue
		}
		divisions++
		for i := range 2 {
			before := slices.Clone(whole(a.numbers[1-i]))
			scribble(a.numbers[i])
			if !slices.Equal(whole(a.numbers[1-i]), before) {
				t.Errorf("%s: result %d changes with result %d", c.name, 1-i, i)
			}
		}
	}
	if divisions == 0 {
		t.Error("no division")
	}
}

// A second answer depends neither on the first, nor on what became of it, nor on calls between.
func TestR2NothingIsKept(t *testing.T) {
	all := calls()
	for _, c := range all {
		first := c.do(c.args)
		want := first.twin()
		for _, n := range first.numbers {
			scribble(n)
		}
		for _, d := range all[:40] {
			d.do(d.args)
		}
		again := c.do(c.args)
		if !again.equal(want) {
			t.Errorf("%s: the second answer is %v; want %v", c.name, again, want)
		}
		for _, n := range first.numbers {
			scribble(n)
		}
		if !again.equal(want) {
			t.Errorf("%s: the second answer shares memory with the first", c.name)
		}
	}
}

// One slice may be both arguments, and two may share their memory.
func TestR2OneNumberTwice(t *testing.T) {
	for _, a := range edges() {
		memory := roomy(a...)
		wantAll(t, memory, memory)
		if len(a) > 1 {
			wantAll(t, memory, memory[1:])
			wantAll(t, memory[1:], memory)
		}
		behind := whole(memory)[len(memory):]
		wantAll(t, memory, behind[:3])
		if !slices.Equal(memory, a) {
			t.Errorf("%x has become %x", a, memory)
		}
	}
}

// R3

func TestR3NilAndEmptyAreEqual(t *testing.T) {
	for _, c := range singles() {
		if a, b := c.do([][]uint32{nil}), c.do([][]uint32{{}}); !a.equal(b) || a.e != api.OK {
			t.Errorf("%s: %v of nil, %v of an empty number", c.name, a, b)
		}
	}
	others := append(valid(), invalid()...)
	for _, c := range doubles() {
		for _, other := range others {
			if a, b := c.do([][]uint32{nil, other.a}), c.do([][]uint32{{}, other.a}); !a.equal(b) {
				t.Errorf("%s with %s: %v of nil, %v of an empty number", c.name, other.name, a, b)
			}
			if a, b := c.do([][]uint32{other.a, nil}), c.do([][]uint32{other.a, {}}); !a.equal(b) {
				t.Errorf("%s with %s: %v of nil, %v of an empty number", c.name, other.name, a, b)
			}
		}
	}
}

// R4

func TestR4Integers(t *testing.T) {
	for _, s := range []string{"0", "5", "7", "10", "100000000000000000000", "123456789012345678901234567890"} {
		n, e := nat.Read(s)
		if text, e2 := nat.Text(n); e != api.OK || e2 != api.OK || text != s {
			t.Errorf("Read(%q) = %x, %d; its text is %q, %d", s, n, int(e), text, int(e2))
		}
	}
	for _, s := range []string{"+5", "007", "-0", "00", "+0", "-5", "-", ""} {
		wantRead(t, s, nil, api.ErrForm)
	}
	for _, a := range append(edges(), shortNumbers(2, 0, 1, 10, 1000, 1000000000, most)...) {
		s, e := nat.Text(a)
		if e != api.OK || s == "" || s[0] == '0' && len(a) > 0 || strings.Trim(s, "0123456789") != "" {
			t.Errorf("Text(%x) = %q, %d", a, s, int(e))
		}
	}
}

// R5

// Limbs stand in their order, the least significant first, in arguments and in answers.
func TestR5Order(t *testing.T) {
	a := []uint32{1, 2, 3, 4}
	if n, e := nat.Word(a[:2]); n != 2<<32+1 || e != api.OK {
		t.Errorf("Word = %d, %d", n, int(e))
	}
	if got := nat.Of(2<<32 + 1); !slices.Equal(got, a[:2]) {
		t.Errorf("Of = %x", got)
	}
	wantText(t, a, "316912650112397582603894390785")
	wantDiv(t, a, power(1), a[1:], a[:1])
	wantDiv(t, a, power(3), a[3:], a[:3])
}

// R6

// Every number that a call returns is valid, so that it may be handed to another one.
func TestR6AnswersAreValid(t *testing.T) {
	for _, c := range calls() {
		for _, n := range c.do(c.args).numbers {
			if e := nat.Check(n); e != api.OK {
				t.Errorf("%s returns %x: error %d", c.name, n, int(e))
			}
		}
	}
}

// Carries and borrows run through every limb, and products and quotients of limbs are the greatest that there are.
func TestR6NothingOverflows(t *testing.T) {
	for size := 1; size <= api.MaxLimbs; size++ {
		all := filled(size, most)
		wantAll(t, all, nat.Of(1))
		wantAll(t, all, nat.Of(most))
		wantAll(t, all, all)
		wantAll(t, all, filled((size+1)/2, most))
		wantAll(t, power(size-1), nat.Of(1))
		wantAll(t, power(size-1), nat.Of(most))
		wantAll(t, power(size-1), filled(size-1, most))
		wantAll(t, all, append(make([]uint32, size-1), 1<<31))
	}
}

func TestR6DivisionRoundsDown(t *testing.T) {
	for a := range uint64(60) {
		for b := uint64(1); b < 20; b++ {
			wantDiv(t, nat.Of(a), nat.Of(b), nat.Of(a/b), nat.Of(a%b))
		}
	}
	n, _ := nat.Read("99999999999999999999999999999999")
	q, _ := new(big.Int).SetString("9999999999999999999999999999999", 10)
	wantDiv(t, n, nat.Of(10), limbsOf(q), nat.Of(9))
}

// R7

// A panic or an endless call would fail the test by itself.
func TestR7AnyArguments(t *testing.T) {
	odd := [][]uint32{nil, {}, {0}, {1}, {0, 0}, {1, 0}, {0, 1}, filled(96, 0), filled(97, 0), filled(97, most), filled(192, most), filled(193, 1), make([]uint32, 1<<22), filled(1<<22, most), filled(96, most), power(95), power(96)}
	for _, a := range odd {
		for _, c := range singles() {
			c.do([][]uint32{a})
		}
		for _, b := range odd {
			for _, c := range doubles() {
				c.do([][]uint32{a, b})
			}
		}
	}
	for _, s := range []string{"", "-", "0", "\x00", "\xff\xfe", "é", strings.Repeat("0", 1<<22), strings.Repeat("9", 1<<22), strings.Repeat("9", 1<<22) + "x", strings.Repeat(" ", 1<<22)} {
		nat.Read(s)
	}
	for _, n := range []uint64{0, 1, math.MaxUint32, math.MaxUint32 + 1, math.MaxUint64} {
		nat.Of(n)
	}
}
