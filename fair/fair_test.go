package fair_test

import (
	"math"
	"math/big"
	"slices"
	"testing"

	"suffrage/api"
	"suffrage/fair"
)

// bounds are bounds of all sizes, also greater than those that package draw lets through.
var bounds = []uint64{1, 2, 3, 5, 6, 7, 10, 64, 1000, 274177, 1<<31 - 1, 1 << 31, 1<<31 + 1, 1<<32 - 65535, 1<<32 - 1, 1 << 32, 1<<32 + 1,
	1<<63 - 1, 1 << 63, 1<<63 + 1, math.MaxUint64}

// rest returns the remainder of 2^64 modulo n.
func rest(n uint64) uint64 {
	power := new(big.Int).Lsh(big.NewInt(1), 64)
	return power.Mod(power, new(big.Int).SetUint64(n)).Uint64()
}

// given returns tries of which the first ones are l, and all that follow are 0, for any draw number.
func given(l ...uint64) func(i, k uint32) uint64 {
	return func(i, k uint32) uint64 {
		if int(k) < len(l) {
			return l[k]
		}
		return 0
	}
}

func checkNumbers(t *testing.T, requests []fair.Request, try func(i, k uint32) uint64, want ...uint64) {
	t.Helper()
	l, e := fair.Numbers(requests, try)
	if e != api.OK || !slices.Equal(l, want) {
		t.Errorf("the numbers for %v are %d, %d; want %d", requests, l, int(e), want)
	}
}

func checkNone(t *testing.T, requests []fair.Request, try func(i, k uint32) uint64) {
	t.Helper()
	if l, e := fair.Numbers(requests, try); e != api.ErrNone || len(l) != 0 {
		t.Errorf("the numbers for %v are %d, %d; want none, ErrNone", requests, l, int(e))
	}
}

// The last try that is small enough leaves below - 1, as all numbers are to come from equally many tries.
func TestNumbersAtTheLimit(t *testing.T) {
	for _, below := range bounds {
		requests := []fair.Request{{I: 9, Below: below}}
		last := math.MaxUint64 - rest(below)
		checkNumbers(t, requests, given(last), below-1)
		checkNumbers(t, requests, given(0, 1), 0)
		if last == math.MaxUint64 {
			continue
		}
		checkNumbers(t, requests, given(last+1, last), below-1)
		checkNumbers(t, requests, given(math.MaxUint64, last+1, last, 0), below-1)
	}
}

func TestNumbersTakeTheFirstSmallTry(t *testing.T) {
	great := slices.Repeat([]uint64{math.MaxUint64}, 16)
	for many := range 16 {
		tries := append(slices.Clone(great[:many]), 1005, 2006, 3007)
		checkNumbers(t, []fair.Request{{I: 0, Below: 10}}, given(tries...), 5)
	}
}

// There are tries 0 to 15; a small one behind them does not count.
func TestNumbersEndAfterSixteenTries(t *testing.T) {
	var asked []uint32
	great := func(i, k uint32) uint64 {
		asked = append(asked, k)
		if k < 16 {
			return math.MaxUint64
		}
		return 0
	}
	checkNone(t, []fair.Request{{I: 3, Below: 10}}, great)
	if want := []uint32{0, 1, 2, 3, 4, 5, 6, 7, 8, 9, 10, 11, 12, 13, 14, 15}; !slices.Equal(asked, want) {
		t.Errorf("the tries are %d; want %d", asked, want)
	}
	asked = nil
	checkNumbers(t, []fair.Request{{I: 3, Below: 16}}, great, 15) // below a power of two every try is small enough
}

// With one number that cannot be drawn there are none at all.
func TestNumbersAreAllOrNone(t *testing.T) {
	try := func(i, k uint32) uint64 {
		if i == 7 {
			return math.MaxUint64
		}
		return uint64(i)
	}
	checkNumbers(t, []fair.Request{{5, 10}, {6, 10}, {8, 10}}, try, 5, 6, 8)
	checkNone(t, []fair.Request{{7, 10}}, try)
	checkNone(t, []fair.Request{{7, 10}, {5, 10}}, try)
	checkNone(t, []fair.Request{{5, 10}, {7, 10}, {6, 10}}, try)
	checkNone(t, []fair.Request{{5, 10}, {6, 10}, {7, 10}}, try)
}

func TestNumbersKeepToTheirRequests(t *testing.T) {
	try := func(i, k uint32) uint64 { return uint64(i)*100 + uint64(k) }
	checkNumbers(t, nil, try)
	checkNumbers(t, []fair.Request{}, try)
	checkNumbers(t, []fair.Request{{2, 1000}, {1, 7}, {2, 9}, {2, 1000}, {math.MaxUint32, 1 << 60}}, try, 200, 2, 2, 200, 100*math.MaxUint32)
}

// drawn returns a way to draw that gives the numbers of l, and keeps what was asked for.
func drawn(asked *[]fair.Request, l ...uint64) func([]fair.Request) ([]uint64, api.Errno) {
	return func(requests []fair.Request) ([]uint64, api.Errno) {
		*asked = slices.Clone(requests)
		return l, api.OK
	}
}

func TestLot(t *testing.T) {
	for _, c := range []struct {
		numbers []uint64
		want    []int
	}{
		{nil, []int{0}},
		{[]uint64{1}, []int{0, 1}},
		{[]uint64{0}, []int{1, 0}},
		{[]uint64{3, 2, 1}, []int{0, 1, 2, 3}},
		{[]uint64{0, 0, 0}, []int{1, 2, 3, 0}},
		{[]uint64{0, 2, 1}, []int{3, 1, 2, 0}},
		{[]uint64{2, 1, 0}, []int{3, 0, 1, 2}},
		{[]uint64{1, 1, 1, 0}, []int{2, 0, 3, 4, 1}},
	} {
		n := len(c.want)
		var asked, want []fair.Request
		for i := n - 1; i >= 1; i-- {
			want = append(want, fair.Request{I: uint32(i), Below: uint64(i + 1)})
		}
		l, e := fair.Lot(n, drawn(&asked, c.numbers...))
		if e != api.OK || !slices.Equal(l, c.want) {
			t.Errorf("the lot of %d by %d is %d, %d; want %d", n, c.numbers, l, int(e), c.want)
		}
		if !slices.Equal(asked, want) {
			t.Errorf("the lot of %d asks for %v; want %v", n, asked, want)
		}
	}
	var asked []fair.Request
	if l, e := fair.Lot(0, drawn(&asked)); e != api.OK || len(l) != 0 || len(asked) != 0 {
		t.Errorf("the lot of 0 is %d, %d, by %v", l, int(e), asked)
	}
}

func TestLotEndsWithTheErrorOfADraw(t *testing.T) {
	for _, n := range []int{2, 3, 64} {
		for without := 1; without < n; without++ {
			try := func(i, k uint32) uint64 {
				if int(i) == without {
					return math.MaxUint64
				}
				return 0
			}
			l, e := fair.Lot(n, func(requests []fair.Request) ([]uint64, api.Errno) { return fair.Numbers(requests, try) })
			if isPower := without&(without+1) == 0; isPower { // then no try is too great
				if e != api.OK || len(l) != n {
					t.Errorf("the lot of %d without %d is %d, %d", n, without, l, int(e))
				}
			} else if e != api.ErrNone || len(l) != 0 {
				t.Errorf("the lot of %d without %d is %d, %d; want none, ErrNone", n, without, l, int(e))
			}
		}
	}
}

func TestNothingIsChangedOrShared(t *testing.T) {
	requests := []fair.Request{{1, 10}, {2, 10}, {3, 10}, {4, 10}}
	before := slices.Clone(requests)
	l, _ := fair.Numbers(requests[:3], given(5))
	again, _ := fair.Numbers(requests[:3], given(5))
	for i := range l[:cap(l)] {
		l[:cap(l)][i] = 77
	}
	if !slices.Equal(requests, before) || !slices.Equal(again, []uint64{5, 5, 5}) {
		t.Errorf("the requests are %v, the numbers %d", requests, again)
	}
	numbers := []uint64{0, 0}
	lot, _ := fair.Lot(3, func([]fair.Request) ([]uint64, api.Errno) { return numbers, api.OK })
	if !slices.Equal(lot, []int{1, 2, 0}) || !slices.Equal(numbers, []uint64{0, 0}) {
		t.Errorf("the lot is %d, the numbers %d", lot, numbers)
	}
}
