package ratio_test

import (
	"math"
	"math/big"
	"slices"
	"strings"
	"testing"

	"suffrage/api"
	"suffrage/ratio"
)

// valid returns valid numbers, with which an operation may return errors of its own.
func valid() []argument {
	return []argument{
		{"0", ratio.Whole(0)},
		{"0 with empty limbs", api.Ratio{Num: []uint32{}, Den: []uint32{1}}},
		{"1", ratio.Whole(1)},
		{"-3/2", ratioOf(small(-3, 2))},
		{"2^64/5", ratioOf(quotient(power(64, 0), big.NewInt(5)))},
		{"a great number", ratioOf(quotient(power(mostBits, -1), big.NewInt(1)))},
		{"a great number, negative", ratioOf(quotient(power(mostBits, -1), power(mostBits-1, 0).Neg(power(mostBits-1, 0))))},
	}
}

// everything returns numbers and what is none.
func everything() []argument { return append(valid(), invalid()...) }

// whole returns the memory of a up to its capacity.
func whole(a []uint32) []uint32 { return a[:cap(a)] }

// scribble overwrites the memory of a number up to the capacities.
func scribble(x api.Ratio) {
	for _, a := range [][]uint32{x.Num, x.Den} {
		for i := range whole(a) {
			whole(a)[i] ^= 0xa5a5a5a5
		}
	}
}

// roomy returns a copy of x with memory behind its limbs.
func roomy(x api.Ratio) api.Ratio {
	room := slices.Repeat([]uint32{0xeeeeeeee}, 120)
	x.Num = append(slices.Clone(x.Num), room...)[:len(x.Num)]
	x.Den = append(slices.Clone(x.Den), room...)[:len(x.Den)]
	return x
}

// memory returns a copy of the memory of a number up to the capacities.
func memory(x api.Ratio) [][]uint32 {
	return [][]uint32{slices.Clone(whole(x.Num)), slices.Clone(whole(x.Den))}
}

func equalMemory(a, b [][]uint32) bool { return slices.EqualFunc(a, b, slices.Equal) }

func (a answer) twin() answer {
	a.ratio.Num, a.ratio.Den = slices.Clone(a.ratio.Num), slices.Clone(a.ratio.Den)
	return a
}

// call is a call whose numbers are in args.
type call struct {
	name string
	args []api.Ratio
	do   func(args []api.Ratio) answer
}

func checkCall(x api.Ratio) answer { return answer{e: ratio.Check(x)} }

func twinCall(x api.Ratio) answer { return ratioAnswer(ratio.Twin(x), api.OK) }

func negCall(x api.Ratio) answer { return ratioAnswer(ratio.Neg(x)) }

func sameCall(x, y api.Ratio) answer { return answer{same: ratio.Same(x, y)} }

// singles returns the calls for one number.
func singles() map[string]func(api.Ratio) answer {
	return map[string]func(api.Ratio) answer{"Check": checkCall, "Twin": twinCall, "Neg": negCall, "Floor": floorCall, "Text": textCall}
}

// doubles returns the calls for two numbers.
func doubles() map[string]func(x, y api.Ratio) answer {
	l := map[string]func(x, y api.Ratio) answer{"Same": sameCall}
	for _, o := range operations() {
		l[o.name] = o.do
	}
	return l
}

// makers returns the calls that take no number.
func makers() []call {
	var l []call
	for _, n := range []int64{math.MinInt64, -6, 0, 4, math.MaxInt64} {
		l = append(l, call{"Whole", nil, func([]api.Ratio) answer { return ratioAnswer(ratio.Whole(int(n)), api.OK) }})
		for _, d := range []int64{math.MinInt64, -6, 0, 4, math.MaxInt64} {
			l = append(l, call{"Of", nil, func([]api.Ratio) answer { return ratioAnswer(ratio.Of(n, d)) }})
		}
	}
	for _, s := range []string{"0", "-7/3", "18446744073709551616", strings.Repeat("9", 900), strings.Repeat("9", 930), "1/" + strings.Repeat("9", 930), "2/4", "x", ""} {
		l = append(l, call{"Read " + s, nil, func([]api.Ratio) answer { return ratioAnswer(ratio.Read(s)) }})
	}
	return l
}

// calls returns each of the package's calls, with arguments that have room behind them, right and wrong.
func calls() []call {
	l := makers()
	for _, x := range everything() {
		for name, do := range singles() {
			l = append(l, call{name + " of " + x.name, []api.Ratio{roomy(x.x)}, func(a []api.Ratio) answer { return do(a[0]) }})
		}
		for _, y := range everything() {
			for name, do := range doubles() {
				l = append(l, call{name + " of " + x.name + " and " + y.name, []api.Ratio{roomy(x.x), roomy(y.x)}, func(a []api.Ratio) answer { return do(a[0], a[1]) }})
			}
		}
	}
	return l
}

// R1

// ErrBad, of whichever number, comes before the errors of the operation.
func TestR1ErrorsInOrder(t *testing.T) {
	for _, o := range operations() {
		for _, bad := range invalid() {
			for _, other := range everything() {
				if got := o.do(bad.x, other.x); !got.isError(api.ErrBad) {
					t.Errorf("%s of %s and of %s: %v", o.name, bad.name, other.name, got)
				}
				if got := o.do(other.x, bad.x); !got.isError(api.ErrBad) {
					t.Errorf("%s of %s and of %s: %v", o.name, other.name, bad.name, got)
				}
			}
		}
	}
	for _, x := range valid() {
		if got := named("Div").do(x.x, ratio.Whole(0)); !got.isError(api.ErrZero) {
			t.Errorf("%s / 0: %v", x.name, got)
		}
	}
	if got := ratioAnswer(ratio.Of(0, 0)); !got.isError(api.ErrZero) {
		t.Errorf("0 / 0: %v", got)
	}
}

func TestR1NothingBesideAnError(t *testing.T) {
	failed := map[api.Errno]int{}
	for _, c := range calls() {
		a := c.do(c.args)
		if a.e == api.OK {
			continue
		}
		failed[a.e]++
		if !a.isError(a.e) {
			t.Errorf("%s: %v beside an error", c.name, a)
		}
	}
	if len(failed) != 4 {
		t.Errorf("errors %v", failed)
	}
}

// R2

func TestR2ArgumentsStay(t *testing.T) {
	for _, c := range calls() {
		var before [][][]uint32
		for _, x := range c.args {
			before = append(before, memory(x))
		}
		c.do(c.args)
		for i, x := range c.args {
			if !equalMemory(memory(x), before[i]) {
				t.Errorf("%s changes the memory of argument %d", c.name, i)
			}
		}
	}
}

func TestR2AnswersShareNothingWithArguments(t *testing.T) {
	for _, c := range calls() {
		a := c.do(c.args)
		want := a.twin()
		for _, x := range c.args {
			scribble(x)
		}
		if !a.equal(want) {
			t.Errorf("%s: the answer changes with an argument", c.name)
		}
		var before [][][]uint32
		for _, x := range c.args {
			before = append(before, memory(x))
		}
		scribble(a.ratio)
		for i, x := range c.args {
			if !equalMemory(memory(x), before[i]) {
				t.Errorf("%s: argument %d changes with the answer", c.name, i)
			}
		}
	}
}

func TestR2LimbsOfAnAnswerShareNothing(t *testing.T) {
	for _, c := range calls() {
		a := c.do(c.args).ratio
		before := memory(a)
		scribble(api.Ratio{Num: a.Num})
		if !slices.Equal(whole(a.Den), before[1]) {
			t.Errorf("%s: the denominator changes with the numerator", c.name)
		}
		before = memory(a)
		scribble(api.Ratio{Den: a.Den})
		if !slices.Equal(whole(a.Num), before[0]) {
			t.Errorf("%s: the numerator changes with the denominator", c.name)
		}
	}
}

// A second answer depends neither on the first, nor on what became of it, nor on calls between.
func TestR2NothingIsKept(t *testing.T) {
	all := calls()
	for _, c := range all {
		first := c.do(c.args)
		want := first.twin()
		scribble(first.ratio)
		for _, d := range all[:50] {
			d.do(d.args)
		}
		again := c.do(c.args)
		if !again.equal(want) {
			t.Errorf("%s: the second answer is %v; want %v", c.name, again, want)
		}
		scribble(first.ratio)
		if !again.equal(want) {
			t.Errorf("%s: the second answer shares memory with the first", c.name)
		}
	}
}

// One number may be both arguments, and the limbs of all numbers may be in one place.
func TestR2OneMemoryForAll(t *testing.T) {
	limbs := []uint32{5, 6, 7}
	room := slices.Clone(limbs)
	for _, x := range []api.Ratio{{Num: room[:1], Den: room[1:2]}, {Neg: true, Num: room[:2], Den: room[:1]}, {Num: room[1:], Den: room[:1]}} {
		for _, y := range []api.Ratio{x, {Num: room, Den: room[:2]}, {Neg: true, Num: room[2:], Den: room[1:2]}} {
			wantAll(t, quotientOf(x), quotientOf(y))
			for _, o := range operations() {
				want := o.wanted(quotientOf(x), quotientOf(y))
				if got := o.do(x, y); !got.equal(want) {
					t.Errorf("%s of %v and %v = %v; want %v", o.name, x, y, got, want)
				}
			}
		}
	}
	if !slices.Equal(room, limbs) {
		t.Errorf("the limbs are %v", room)
	}
}

func quotientOf(x api.Ratio) *big.Rat {
	r := quotient(bigOf(x.Num), bigOf(x.Den))
	if x.Neg {
		return minus(r)
	}
	return r
}

// R3

func TestR3NilAndEmptyAreEqual(t *testing.T) {
	empty := []uint32{}
	pairs := [][2]api.Ratio{
		{{Den: []uint32{1}}, {Num: empty, Den: []uint32{1}}},
		{{Num: []uint32{1}}, {Num: []uint32{1}, Den: empty}},
		{{}, {Num: empty, Den: empty}},
		{{Neg: true}, {Neg: true, Den: empty}},
	}
	for _, p := range pairs {
		for name, do := range singles() {
			if a, b := do(p[0]), do(p[1]); !a.equal(b) {
				t.Errorf("%s: %v of nil, %v of empty limbs", name, a, b)
			}
		}
		for name, do := range doubles() {
			for _, other := range append(everything(), argument{"itself", p[0]}) {
				if a, b := do(p[0], other.x), do(p[1], other.x); !a.equal(b) {
					t.Errorf("%s with %s: %v of nil, %v of empty limbs", name, other.name, a, b)
				}
				if a, b := do(other.x, p[0]), do(other.x, p[1]); !a.equal(b) {
					t.Errorf("%s with %s: %v of nil, %v of empty limbs", name, other.name, a, b)
				}
			}
		}
	}
}

// R4

func TestR4Integers(t *testing.T) {
	for _, s := range []string{"0", "5", "-5", "10", "-100000000000000000000", "7/10", "-123456789012345678901234567890/11"} {
		x, e := ratio.Read(s)
		if text, e2 := ratio.Text(x); e != api.OK || e2 != api.OK || text != s {
			t.Errorf("Read(%q) = %v, %d; its text is %q, %d", s, x, int(e), text, int(e2))
		}
	}
	for _, s := range []string{"+5", "007", "-0", "00", "+0", "-", "", "-05", "5/007", "5/+7", "5/-7", "005/7"} {
		wantRead(t, s, answer{e: api.ErrForm})
	}
}

// R5

// Limbs stand in their order, the least significant first, in arguments and in answers.
func TestR5Order(t *testing.T) {
	x := api.Ratio{Neg: true, Num: []uint32{1, 2, 3}, Den: []uint32{4, 7}}
	if got := textCall(x); !got.equal(answer{text: "-55340232229718589441/30064771076"}) {
		t.Errorf("Text = %v", got)
	}
	wantRead(t, "-55340232229718589441/30064771076", answer{ratio: x})
	if got := ratioAnswer(ratio.Of(2<<32+1, -(4<<32 + 3))); !got.equal(answer{ratio: api.Ratio{Neg: true, Num: []uint32{1, 2}, Den: []uint32{3, 4}}}) {
		t.Errorf("Of = %v", got)
	}
}

// R6

// Every number that a call returns is valid, so that it may be handed to another one.
func TestR6AnswersAreValid(t *testing.T) {
	results := 0
	for _, c := range calls() {
		a := c.do(c.args)
		if a.e != api.OK || len(a.ratio.Den) == 0 || strings.HasPrefix(c.name, "Twin") {
			continue
		}
		results++
		if e := ratio.Check(a.ratio); e != api.OK {
			t.Errorf("%s returns %v: error %d", c.name, a, int(e))
		}
	}
	if results < 50 {
		t.Errorf("only %d results", results)
	}
}

func TestR6NothingOverflows(t *testing.T) {
	least := ratio.Whole(math.MinInt)
	if got := negCall(least); !got.equal(found(new(big.Rat).SetInt(power(63, 0)))) {
		t.Errorf("-(-2^63) = %v", got)
	}
	one := func(a api.Ratio, e api.Errno) string {
		s, e2 := ratio.Text(a)
		if e != api.OK || e2 != api.OK {
			t.Errorf("errors %d and %d", int(e), int(e2))
		}
		return s
	}
	if s := one(ratio.Add(least, least)); s != "-18446744073709551616" {
		t.Errorf("the sum is %s", s)
	}
	if s := one(ratio.Sub(ratio.Whole(math.MaxInt), least)); s != "18446744073709551615" {
		t.Errorf("the difference is %s", s)
	}
	if s := one(ratio.Mul(least, least)); s != "85070591730234615865843651857942052864" {
		t.Errorf("the product is %s", s)
	}
	if s := one(ratio.Of(math.MaxInt64, math.MinInt64)); s != "-9223372036854775807/9223372036854775808" {
		t.Errorf("the quotient is %s", s)
	}
}

func TestR6DivisionRoundsDown(t *testing.T) {
	for n := int64(-60); n <= 60; n++ {
		for d := int64(1); d < 13; d++ {
			x, _ := ratio.Of(n, d)
			if got := floorCall(x); !got.equal(floored(small(n, d))) {
				t.Errorf("Floor of %d/%d = %v", n, d, got)
			}
		}
	}
}

// R7

// A panic or an endless call would fail the test by itself.
func TestR7AnyArguments(t *testing.T) {
	limbs := [][]uint32{nil, {}, {0}, {1}, {0, 0}, {1, 0}, {0, 1}, {math.MaxUint32}, make([]uint32, api.MaxLimbs), make([]uint32, api.MaxLimbs+1), slices.Repeat([]uint32{math.MaxUint32}, api.MaxLimbs), slices.Repeat([]uint32{math.MaxUint32}, api.MaxLimbs+1), make([]uint32, 1<<18), slices.Repeat([]uint32{1}, 1<<18)}
	var odd []api.Ratio
	for _, num := range limbs {
		for _, den := range limbs {
			odd = append(odd, api.Ratio{Num: num, Den: den}, api.Ratio{Neg: true, Num: num, Den: den})
		}
	}
	for _, x := range odd {
		for _, do := range singles() {
			do(x)
		}
		for _, o := range operations() {
			for _, y := range odd {
				o.do(x, y)
			}
		}
		ratio.Same(x, x)
	}
	for _, s := range []string{"", "-", "/", "-/", "//", "\x00", "\xff\xfe/\xff", "é", strings.Repeat("0", 1<<20), strings.Repeat("9", 1<<20), strings.Repeat("-", 1<<20), strings.Repeat("/", 1<<20), strings.Repeat("1/", 1<<20), "1/" + strings.Repeat("0", 1<<20), strings.Repeat(" ", 1<<20)} {
		ratio.Read(s)
	}
}
