package quota_test

import (
	"fmt"
	"math"
	"slices"
	"testing"

	"suffrage/api"
	"suffrage/quota"
	"suffrage/ratio"
)

// whole returns the memory of a up to its capacity.
func whole(a []uint32) []uint32 { return a[:cap(a)] }

// scribble overwrites the memory of a number up to the capacities.
func scribble(x api.Ratio) {
	for _, a := range [][]uint32{x.Num, x.Den} {
		for i := range whole(a) {
			whole(a)[i] ^= 0xa5a5a5a5
		}
	}
}

// roomy returns a copy of x with memory behind its limbs.
func roomy(x api.Ratio) api.Ratio {
	room := slices.Repeat([]uint32{0xeeeeeeee}, 120)
	x.Num = append(slices.Clone(x.Num), room...)[:len(x.Num)]
	x.Den = append(slices.Clone(x.Den), room...)[:len(x.Den)]
	return x
}

// memory returns a copy of the memory of a number up to the capacities.
func memory(x api.Ratio) [][]uint32 {
	return [][]uint32{slices.Clone(whole(x.Num)), slices.Clone(whole(x.Den))}
}

func equalMemory(a, b [][]uint32) bool { return slices.EqualFunc(a, b, slices.Equal) }

// call is a call, with its argument if that is a rational number.
type call struct {
	name string
	arg  api.Ratio
	do   func(arg api.Ratio) answer
}

// valid returns numbers that Billionths takes, and some that are too great for it.
func valid() []argument {
	l := []argument{{"0 with empty limbs", api.Ratio{Num: []uint32{}, Den: []uint32{1}}}}
	for _, s := range []string{"0", "1", "1/3", "22/7", "0.0000000015", "999999.9999999999", "1000000", "1000001", "1e30", "-1", "-1/3"} {
		l = append(l, argument{s, ratioOf(rat(s))})
	}
	return append(l, long()...)
}

// quotaCalls returns calls of Droop, Hare and Hagenbach, right and wrong.
func quotaCalls() []call {
	var l []call
	for _, votes := range []int{math.MinInt, -1, 0, 1, 100, million, million + 1, math.MaxInt} {
		for _, seats := range []int{math.MinInt, 0, 1, 3, 10, 11, math.MaxInt} {
			l = append(l, call{name: fmt.Sprintf("Droop of %d and %d", votes, seats), do: func(api.Ratio) answer { return droop(votes, seats) }})
			l = append(l, call{name: fmt.Sprintf("Hare of %d and %d", votes, seats), do: func(api.Ratio) answer { return hare(votes, seats) }})
			l = append(l, call{name: fmt.Sprintf("Hagenbach of %d and %d", votes, seats), do: func(api.Ratio) answer { return hagenbach(votes, seats) }})
		}
	}
	return l
}

// fixedCalls returns calls of Down, Up, Share and Ratio, right and wrong.
func fixedCalls() []call {
	var l []call
	numbers := []int{math.MinInt, -1, 0, 1, unit - 1, unit, most - 1, most, most + 1, math.MaxInt}
	for _, a := range numbers {
		l = append(l, call{name: fmt.Sprintf("Ratio of %d", a), do: func(api.Ratio) answer { return toRatio(a) }})
		for _, b := range numbers {
			l = append(l, call{name: fmt.Sprintf("Down of %d and %d", a, b), do: func(api.Ratio) answer { return down(a, b) }})
			l = append(l, call{name: fmt.Sprintf("Up of %d and %d", a, b), do: func(api.Ratio) answer { return up(a, b) }})
			for _, c := range numbers {
				l = append(l, call{name: fmt.Sprintf("Share of %d, %d and %d", a, b, c), do: func(api.Ratio) answer { return share(a, b, c) }})
			}
		}
	}
	return l
}

// calls returns each of the package's calls, with arguments that have room behind them, right and wrong.
func calls() []call {
	l := append(quotaCalls(), fixedCalls()...)
	for _, a := range append(valid(), invalid()...) {
		if len(a.x.Num) < 1000 {
			l = append(l, call{"Billionths of " + a.name, roomy(a.x), billionths})
		}
	}
	return l
}

// R1

// ErrArg, whichever argument it is of, comes before the other errors, and ErrZero before ErrGreat.
func TestR1ErrorsInOrder(t *testing.T) {
	for _, c := range []struct {
		name string
		got  answer
		want api.Errno
	}{
		{"Share, of three wrong arguments", share(-1, -1, -1), api.ErrArg},
		{"Share, of a wrong number, by 0", share(most+1, most, 0), api.ErrArg},
		{"Share, by 0, of another wrong number", share(most, -1, 0), api.ErrArg},
		{"Share, too great, of a wrong divisor", share(most, most, -1), api.ErrArg},
		{"Share, by 0", share(most, most, 0), api.ErrZero},
		{"Share, too great", share(most, most, 1), api.ErrGreat},
		{"Down, of a wrong number and the greatest", down(most+1, most), api.ErrArg},
		{"Down, of the greatest and a wrong number", down(most, most+1), api.ErrArg},
		{"Up, of a wrong number and the greatest", up(most+1, most), api.ErrArg},
		{"Up, of the greatest and a wrong number", up(most, most+1), api.ErrArg},
		{"Billionths, negative and too long", billionths(api.Ratio{Neg: true, Num: ones(91), Den: []uint32{1}}), api.ErrArg},
		{"Billionths, negative and too great", billionths(api.Ratio{Neg: true, Num: ones(3), Den: []uint32{1}}), api.ErrArg},
		{"Billionths, too long and not valid", billionths(api.Ratio{Num: ones(91), Den: ones(91)}), api.ErrArg},
		{"Billionths, too long for any number", billionths(api.Ratio{Num: ones(97), Den: []uint32{1}}), api.ErrArg},
		{"Billionths, too great and not valid", billionths(api.Ratio{Num: append(ones(3), 0), Den: []uint32{1}}), api.ErrArg},
		{"Billionths, too long and too great", billionths(api.Ratio{Num: ones(91), Den: []uint32{1}}), api.ErrGreat},
		{"Droop, of wrong votes and wrong seats", droop(-1, 0), api.ErrArg},
		{"Hare, of wrong votes and no seats", hare(million+1, 0), api.ErrArg},
		{"Hagenbach, of wrong votes and of -1 seats", hagenbach(-1, -1), api.ErrArg},
	} {
		if !c.got.isError(c.want) {
			t.Errorf("%s: %v; want error %d", c.name, c.got, int(c.want))
		}
	}
}

func TestR1NothingBesideAnError(t *testing.T) {
	failed := map[api.Errno]int{}
	for _, c := range calls() {
		a := c.do(c.arg)
		failed[a.e]++
		if a.e != api.OK && (!a.isError(a.e) || a.ratio.Num != nil || a.ratio.Den != nil) {
			t.Errorf("%s: %v beside an error", c.name, a)
		}
	}
	if len(failed) != 4 || failed[api.OK] < 100 || failed[api.ErrArg] < 100 || failed[api.ErrZero] < 20 || failed[api.ErrGreat] < 50 {
		t.Errorf("errors %v", failed)
	}
}

// R2

func TestR2ArgumentsStay(t *testing.T) {
	for _, c := range calls() {
		before := memory(c.arg)
		c.do(c.arg)
		if !equalMemory(memory(c.arg), before) {
			t.Errorf("%s changes the memory of its argument", c.name)
		}
	}
}

func TestR2PartsOfAnAnswerShareNothing(t *testing.T) {
	for _, c := range calls() {
		a := c.do(c.arg).ratio
		before := memory(a)
		scribble(api.Ratio{Num: a.Num})
		if !slices.Equal(whole(a.Den), before[1]) {
			t.Errorf("%s: the denominator changes with the numerator", c.name)
		}
		before = memory(a)
		scribble(api.Ratio{Den: a.Den})
		if !slices.Equal(whole(a.Num), before[0]) {
			t.Errorf("%s: the numerator changes with the denominator", c.name)
		}
	}
}

// A second answer depends neither on the first, nor on what became of it or of its argument, nor on calls between.
func TestR2NothingIsKept(t *testing.T) {
	all := calls()
	for _, c := range all {
		own := roomy(c.arg)
		first := c.do(own)
		want := first.twin()
		scribble(own)
		if !first.equal(want) {
			t.Errorf("%s: the answer changes with the argument", c.name)
		}
		scribble(first.ratio)
		for _, d := range all[:30] {
			d.do(d.arg)
		}
		again := c.do(c.arg)
		if !again.equal(want) {
			t.Errorf("%s: the second answer is %v; want %v", c.name, again, want)
		}
		scribble(first.ratio)
		if !again.equal(want) {
			t.Errorf("%s: the second answer shares memory with the first", c.name)
		}
	}
}

// The limbs of both parts may be in one place.
func TestR2OneMemoryForBothParts(t *testing.T) {
	limbs := []uint32{5, 6, 7}
	room := slices.Clone(limbs)
	for _, x := range []api.Ratio{{Num: room[:1], Den: room[1:2]}, {Num: room[:2], Den: room[:1]}, {Num: room[:1], Den: room[:2]}, {Num: room, Den: room[1:]}, {Num: room, Den: room}} {
		wantBillionths(t, x)
	}
	if !slices.Equal(room, limbs) {
		t.Errorf("the limbs are %v", room)
	}
}

// R3

func TestR3NilAndEmptyAreEqual(t *testing.T) {
	empty := []uint32{}
	for _, p := range [][2]api.Ratio{
		{{Den: []uint32{1}}, {Num: empty, Den: []uint32{1}}},
		{{Neg: true, Den: []uint32{1}}, {Neg: true, Num: empty, Den: []uint32{1}}},
		{{Num: []uint32{1}}, {Num: []uint32{1}, Den: empty}},
		{{}, {Num: empty, Den: empty}},
	} {
		if a, b := billionths(p[0]), billionths(p[1]); !a.equal(b) {
			t.Errorf("%v of nil, %v of empty limbs", a, b)
		}
	}
	zero, e := quota.Ratio(0)
	if got := billionths(zero); e != api.OK || len(zero.Num) != 0 || !got.equal(answer{}) {
		t.Errorf("0 is %v, error %d, and that is %v", zero, int(e), got)
	}
}

// R5

// Limbs stand in their order, the least significant first, in arguments and in answers.
func TestR5Order(t *testing.T) {
	if got := toRatio(most - 1); !got.equal(answer{ratio: api.Ratio{Num: []uint32{2_764_472_319, 232_830}, Den: []uint32{unit}}}) {
		t.Errorf("Ratio = %v", got)
	}
	if got := billionths(api.Ratio{Num: []uint32{1, 2}, Den: []uint32{3, 4}}); !got.equal(answer{n: 499_999_999}) { // (2^33 + 1) / (2^34 + 3)
		t.Errorf("Billionths = %v", got)
	}
	if got := billionths(api.Ratio{Num: []uint32{0, 5}, Den: []uint32{1 << 31, 7}}); !got.isError(api.ErrArg) {
		t.Errorf("Billionths of what is not in lowest terms = %v", got)
	}
}

// R6

// Every number that a call returns is valid, so that it may be handed to another one.
func TestR6AnswersAreValid(t *testing.T) {
	results := 0
	for _, c := range calls() {
		a := c.do(c.arg)
		if a.e != api.OK {
			continue
		}
		results++
		if a.ratio.Den != nil && ratio.Check(a.ratio) != api.OK || !modelIsFixed(a.n) {
			t.Errorf("%s returns %v", c.name, a)
		}
	}
	if results < 100 {
		t.Errorf("only %d results", results)
	}
}

func TestR6NothingOverflows(t *testing.T) {
	for _, c := range []struct{ got, want answer }{
		{share(most, most, most), answer{n: most}},
		{share(most, most-1, most), answer{n: most - 1}},
		{share(most-1, most-1, most-1), answer{n: most - 1}},
		{share(most, most, 1), answer{e: api.ErrGreat}},
		{share(1<<32, 1<<32, 1), answer{e: api.ErrGreat}},         // 2^64, whose low word is 0
		{share(1<<33, 1<<31, 3), answer{e: api.ErrGreat}},         // 2^64 / 3
		{share(1<<32, 1<<31, 1), answer{e: api.ErrGreat}},         // 2^63, as an int the least
		{share(1<<48, 1<<48, 1<<48), answer{n: 1 << 48}},          // 2^96 / 2^48
		{down(most, unit), answer{n: most}},                       // 10^24
		{down(million*million, 1000*unit), answer{n: most}},       // 10^24
		{up(18_446_744_073_709, unit), answer{n: 18446744073709}}, // just below 1000 * 2^64
		{droop(million, math.MaxInt), answer{e: api.ErrArg}},
		{hare(million, math.MinInt), answer{e: api.ErrArg}},
		{hagenbach(million, math.MaxInt), answer{e: api.ErrArg}}, // which has no seats + 1
		{billionths(api.Ratio{Num: ones(90), Den: append([]uint32{math.MaxUint32 - 1}, ones(89)...)}), answer{n: unit}},
		{billionths(api.Ratio{Num: []uint32{0, 1 << 23}, Den: []uint32{1953125}}), answer{e: api.ErrGreat}}, // 2^64 billionths
	} {
		if !c.got.equal(c.want) {
			t.Errorf("%v; want %v", c.got, c.want)
		}
	}
}

func TestR6DivisionRoundsDown(t *testing.T) {
	for n := range 200 {
		for d := 1; d < 40; d++ {
			if got := share(n, 1, d); !got.equal(answer{n: n / d}) {
				t.Errorf("Share of %d, 1 and %d = %v", n, d, got)
			}
			x, _ := ratio.Of(int64(n), int64(d))
			if got := billionths(x); !got.equal(answer{n: n * unit / d}) {
				t.Errorf("Billionths of %d/%d = %v", n, d, got)
			}
		}
	}
}

// R7

// A panic or an endless call would fail the test by itself.
func TestR7AnyArguments(t *testing.T) {
	limbs := [][]uint32{nil, {}, {0}, {1}, {0, 0}, {1, 0}, {0, 1}, {math.MaxUint32}, ones(90), ones(91), make([]uint32, 96), make([]uint32, 97), ones(96), ones(97), shifted(90), shifted(91), shifted(96), shifted(97), make([]uint32, 1<<18), ones(1 << 18)}
	for _, num := range limbs {
		for _, den := range limbs {
			for _, neg := range []bool{false, true} {
				x := api.Ratio{Neg: neg, Num: num, Den: den}
				if len(num) < 100 && len(den) < 100 {
					wantBillionths(t, x)
				} else if got := billionths(x); !got.isError(api.ErrArg) {
					t.Errorf("%d and %d limbs: %v", len(num), len(den), got)
				}
			}
		}
	}
	numbers := []int{math.MinInt, math.MinInt + 1, -most, -unit, -1, 0, 1, 2, unit, most, most + 1, math.MaxUint32, 1 << 32, 1 << 62, math.MaxInt - 1, math.MaxInt}
	for _, a := range numbers {
		wantRatio(t, a)
		for _, b := range numbers {
			wantQuotas(t, a, b)
			wantProducts(t, a, b)
			for _, c := range numbers {
				wantShare(t, a, b, c)
			}
		}
	}
}
