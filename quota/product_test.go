package quota_test

import (
	"math"
	"math/big"
	"math/rand"
	"slices"
	"testing"

	"suffrage/api"
)

// wantProducts holds Down and Up of two numbers against the model.
func wantProducts(t *testing.T, a, b int) {
	t.Helper()
	if got, want := down(a, b), modelDown(a, b); !got.equal(want) {
		t.Errorf("Down of %d and %d = %v; want %v", a, b, got, want)
	}
	if got, want := up(a, b), modelUp(a, b); !got.equal(want) {
		t.Errorf("Up of %d and %d = %v; want %v", a, b, got, want)
	}
}

func wantShare(t *testing.T, a, b, c int) {
	t.Helper()
	if got, want := share(a, b, c), modelShare(a, b, c); !got.equal(want) {
		t.Errorf("Share of %d, %d and %d = %v; want %v", a, b, c, got, want)
	}
}

// edges returns valid fixed-point numbers.
func edges() []int {
	return []int{0, 1, 2, 3, unit/2 - 1, unit / 2, unit/2 + 1, unit - 1, unit, unit + 1, 3 * unit / 2, 1 << 32, 1<<32 + 1, million*million - 1, million * million, million*million + 1, most/2 + 1, most - 1, most}
}

// outside returns numbers that are no valid fixed-point numbers.
func outside() []int {
	return []int{-1, -unit, -most, most + 1, most + unit, 1 << 62, math.MinInt, math.MinInt + 1, math.MaxInt - 1, math.MaxInt}
}

// P17.2

func TestP17_2Products(t *testing.T) {
	great := api.ErrGreat
	for _, c := range []struct {
		a, b     int
		down, up int
		downE    api.Errno
		upE      api.Errno
	}{
		{1_500_000_000, 1, 1, 2, 0, 0}, // the chapter's
		{0, 0, 0, 0, 0, 0},
		{0, most, 0, 0, 0, 0},
		{1, 1, 0, 1, 0, 0},
		{1, unit - 1, 0, 1, 0, 0}, // just below one billionth
		{31_622, 31_622, 0, 1, 0, 0},
		{31_623, 31_623, 1, 2, 0, 0}, // just above it
		{1, unit, 1, 1, 0, 0},
		{1, unit + 1, 1, 2, 0, 0},
		{2, unit / 2, 1, 1, 0, 0},
		{2, unit/2 - 1, 0, 1, 0, 0},
		{2, unit/2 + 1, 1, 2, 0, 0},
		{unit - 1, unit - 1, unit - 2, unit - 1, 0, 0}, // just above a whole number of billionths
		{unit - 1, unit + 1, unit - 1, unit, 0, 0},     // just below one
		{unit + 1, unit + 1, unit + 2, unit + 3, 0, 0},
		{unit / 2, unit / 2, unit / 4, unit / 4, 0, 0},
		{3 * unit / 2, 3 * unit / 2, 9 * unit / 4, 9 * unit / 4, 0, 0},
		{2 * unit, 3 * unit, 6 * unit, 6 * unit, 0, 0},
		{most, 1, million, million, 0, 0},
		{most - 1, 1, million - 1, million, 0, 0},
		{most, unit, most, most, 0, 0},
		{most - 1, unit, most - 1, most - 1, 0, 0},
		{most, unit - 1, most - million, most - million, 0, 0},
		{most - 1, unit - 1, most - million - 1, most - million, 0, 0},
		{1000 * unit, 1000 * unit, most, most, 0, 0},
		{1_001_001_001, 999_000_000_000_999, most - 1, most, 0, 0}, // 10^24 - 1
		{2_898_935_869, 344_954_164_282_687, most, 0, 0, great},    // 10^24 + 3
		{127_433_880_527, 7_847_206_691_537, most, 0, 0, great},    // 10^24 + 10^9 - 1
		{1_000_010_000, 999_990_000_100_000, 0, 0, great, great},   // 10^24 + 10^9: one billionth too much
		{1000*unit + 1, 1000*unit + 1, 0, 0, great, great},
		{most, unit + 1, 0, 0, great, great},
		{most - 1, unit + 1, 0, 0, great, great},
		{most, most, 0, 0, great, great},
		{most - 1, most, 0, 0, great, great},
		{most - 1, most - 1, 0, 0, great, great},
	} {
		for _, turned := range []bool{false, true} {
			a, b := c.a, c.b
			if turned {
				a, b = b, a
			}
			if got := down(a, b); !got.equal(answer{n: c.down, e: c.downE}) {
				t.Errorf("Down of %d and %d = %v", a, b, got)
			}
			if got := up(a, b); !got.equal(answer{n: c.up, e: c.upE}) {
				t.Errorf("Up of %d and %d = %v", a, b, got)
			}
			wantProducts(t, a, b)
		}
	}
}

func TestP17_2Shares(t *testing.T) {
	for _, c := range []struct {
		a, b, c int
		n       int
		e       api.Errno
	}{
		{2 * unit, unit, 3 * unit, 666_666_666, 0}, // the chapter's
		{2, 1, 3, 0, 0}, // two thirds of one billionth
		{0, 0, 1, 0, 0},
		{0, most, most, 0, 0},
		{most, 0, 1, 0, 0},
		{1, 1, 1, 1, 0},
		{1, 1, 2, 0, 0},
		{7, 3, 4, 5, 0},
		{7, 3, 21, 1, 0},
		{7, 3, 22, 0, 0},
		{7, 3, 20, 1, 0},
		{7, 7, 7, 7, 0},
		{unit, unit, 1, 0, api.ErrGreat},
		{unit, unit, 1000, most, 0},
		{unit, unit, 999, 0, api.ErrGreat},
		{unit, unit, 1001, 999_000_999_000_999, 0},
		{unit - 1, unit - 1, unit, unit - 2, 0},
		{unit - 1, unit + 1, unit, unit - 1, 0},
		{most, most, most, most, 0},
		{most, most, most - 1, 0, api.ErrGreat}, // 10^15 + 1 and a little
		{most - 1, most - 1, most, most - 2, 0},
		{most, most - 1, most, most - 1, 0},
		{most, most - 2, most - 1, most - 2, 0}, // 10^15 - 1 - 1 / (10^15 - 1)
		{most - 1, most, most - 1, most, 0},
		{most, 1, 1, most, 0},
		{most, 1, 2, most / 2, 0},
		{most, 1, most, 1, 0},
		{most - 1, 1, most, 0, 0},
		{1, 1, most, 0, 0},
		{most, 2, 1, 0, api.ErrGreat},
		{most, 2, 2, most, 0},
		{3, 666_666_666_666_667, 2, most, 0},          // 10^15 + 1/2
		{100_001, 9_999_900_001, 1, 0, api.ErrGreat},  // 10^15 + 1
		{100_001, 9_999_900_001, 2, most / 2, 0},      // rounded down by 1/2
		{99_999, 10_000_100_001, 1, most - 1, 0},      // 10^15 - 1
		{most, most, 1, 0, api.ErrGreat},              // 10^30, of 100 bits
		{most, most, 54_210_108_623, 0, api.ErrGreat}, // just above 2^64
		{most, most, 54_210_108_624, 0, api.ErrGreat}, // the same
		{most, most, 54_210_108_625, 0, api.ErrGreat}, // just below 2^64
		{most, most, 108_420_217_248, 0, api.ErrGreat},
		{most, most, 108_420_217_249, 0, api.ErrGreat},
		{1 << 32, 1 << 32, 1, 0, api.ErrGreat}, // 2^64
		{1 << 32, 1 << 32, 1 << 32, 1 << 32, 0},
		{1 << 48, 1 << 48, 1 << 47, 1 << 49, 0},
		{1 << 49, 1 << 49, 1 << 32, 0, api.ErrGreat}, // 2^66
		{1 << 49, 1 << 49, 1 << 34, 0, api.ErrGreat}, // 2^64
		{1 << 49, 1 << 49, 1 << 35, 0, api.ErrGreat}, // 2^63
		{1 << 49, 1 << 49, 1 << 49, 1 << 49, 0},
	} {
		if got := share(c.a, c.b, c.c); !got.equal(answer{n: c.n, e: c.e}) {
			t.Errorf("Share of %d, %d and %d = %v", c.a, c.b, c.c, got)
		}
		if got := share(c.b, c.a, c.c); !got.equal(answer{n: c.n, e: c.e}) {
			t.Errorf("Share of %d, %d and %d = %v", c.b, c.a, c.c, got)
		}
		wantShare(t, c.a, c.b, c.c)
	}
}

// Every edge, valid or not, in each place.
func TestP17_2Edges(t *testing.T) {
	all := append(edges(), outside()...)
	for _, a := range all {
		for _, b := range all {
			wantProducts(t, a, b)
			for _, c := range all {
				wantShare(t, a, b, c)
			}
		}
	}
}

func TestP17_2NotValid(t *testing.T) {
	for _, bad := range outside() {
		for _, a := range append(edges(), outside()...) {
			for _, got := range []answer{down(a, bad), down(bad, a), up(a, bad), up(bad, a), share(bad, bad, a)} {
				if !got.isError(api.ErrArg) {
					t.Errorf("%v of %d and %d", got, a, bad)
				}
			}
			for _, b := range []int{0, 1, unit, most, bad} {
				for _, got := range []answer{share(bad, a, b), share(a, bad, b), share(a, b, bad)} {
					if !got.isError(api.ErrArg) {
						t.Errorf("Share with %d, %d and %d: %v", a, b, bad, got)
					}
				}
			}
		}
	}
}

// ErrZero comes before ErrGreat, as nothing is divided, and behind ErrArg.
func TestP17_2DivisionByZero(t *testing.T) {
	for _, a := range edges() {
		for _, b := range edges() {
			if got := share(a, b, 0); !got.isError(api.ErrZero) {
				t.Errorf("Share of %d, %d and 0 = %v", a, b, got)
			}
		}
		for _, bad := range outside() {
			for _, got := range []answer{share(a, bad, 0), share(bad, a, 0), share(bad, bad, 0)} {
				if !got.isError(api.ErrArg) {
					t.Errorf("Share of %d, %d and 0: %v", a, bad, got)
				}
			}
		}
	}
}

// around returns those of the numbers around a quotient that are valid fixed-point numbers.
func around(n *big.Int, divisor int) []int {
	var l []int
	q := new(big.Int).Div(n, big.NewInt(int64(divisor)))
	for more := int64(-2); more <= 2; more++ {
		m := new(big.Int).Add(q, big.NewInt(more))
		if m.IsInt64() && modelIsFixed(int(m.Int64())) {
			l = append(l, int(m.Int64()))
		}
	}
	return l
}

// Products around the multiples of 2^64, where the low word overflows, around the multiples of Unit, and around the greatest.
func TestP17_2ProductsAroundNumbers(t *testing.T) {
	var targets []*big.Int
	for _, times := range []int64{1, 2, 3, 1000, 4096, 54_209, 54_210, 54_211, 1 << 31, 54_210_108_624} {
		targets = append(targets, new(big.Int).Mul(power(64, 0), big.NewInt(times)))
	}
	for _, billionths := range []int64{1, 2, 999, unit - 1, unit, unit + 1, most / 3, most - 1, most, most + 1, most + 2} {
		targets = append(targets, new(big.Int).Mul(big.NewInt(unit), big.NewInt(billionths)))
	}
	targets = append(targets, power(63, 0), new(big.Int).Mul(power(63, 0), big.NewInt(unit)), new(big.Int).Mul(power(64, 0), big.NewInt(unit)))
	for _, target := range targets {
		for _, a := range []int{1, 2, 3, 7, 1000, 65_537, 999_999_937, unit - 1, unit, unit + 1, 1 << 32, 123_456_789_012, most / 3, most - 1, most} {
			for _, b := range around(target, a) {
				wantProducts(t, a, b)
				wantProducts(t, b, a)
				for _, c := range []int{1, 2, a, b, unit, most} {
					wantShare(t, a, b, c)
				}
			}
		}
	}
}

// Divisors that lead to quotients around a number, above all around the greatest valid one and around those that need 64 bits.
func TestP17_2QuotientsAroundNumbers(t *testing.T) {
	quotients := []*big.Int{big.NewInt(1), big.NewInt(2), big.NewInt(unit), big.NewInt(most - 1), big.NewInt(most), big.NewInt(most + 1), power(53, 0), power(63, 0), power(64, 0), power(65, 0), power(96, 0)}
	for _, a := range edges() {
		for _, b := range edges() {
			product := new(big.Int).Mul(big.NewInt(int64(a)), big.NewInt(int64(b)))
			for _, q := range quotients {
				n := new(big.Int).Div(product, q)
				for _, c := range around(n, 1) {
					wantShare(t, a, b, c)
				}
			}
		}
	}
}

func TestP17_2Random(t *testing.T) {
	r := rand.New(rand.NewSource(17))
	outcomes := map[api.Errno]int{}
	for range 60_000 {
		a, b, c := some(r, most), some(r, most), some(r, most)
		wantProducts(t, a, b)
		wantShare(t, a, b, c)
		outcomes[down(a, b).e]++
		outcomes[share(a, b, c).e]++
	}
	if outcomes[api.OK] < 10_000 || outcomes[api.ErrGreat] < 10_000 {
		t.Errorf("outcomes %v", outcomes)
	}
}

// Down is valid while Up is ErrGreat just between the greatest number and one billionth more.
func TestP17_2DownMayBeValidWhereUpIsNot(t *testing.T) {
	found := 0
	for y := 999_400; y <= million; y++ {
		a, b := million*million+y+1, million*million-y // their product is 10^24 + 10^12 - y(y + 1)
		more := million*million - y*(y+1)
		d, u := down(a, b), up(a, b)
		switch {
		case more < 0: // only for the last one, and by 10^6
			if !d.equal(answer{n: most - 1}) || !u.equal(answer{n: most}) {
				t.Errorf("%d * %d: %v and %v", a, b, d, u)
			}
		case more < unit:
			found++
			if !d.equal(answer{n: most}) || !u.isError(api.ErrGreat) {
				t.Errorf("%d * %d: %v and %v", a, b, d, u)
			}
		default:
			if !d.isError(api.ErrGreat) || !u.isError(api.ErrGreat) {
				t.Errorf("%d * %d: %v and %v", a, b, d, u)
			}
		}
	}
	if found < 400 {
		t.Errorf("only %d products", found)
	}
}

// The arguments in c may be less than, equal to and greater than a and b.
func TestP17_2SharesOfSmallNumbers(t *testing.T) {
	for a := range 24 {
		for b := range 24 {
			for c := range 40 {
				wantShare(t, a, b, c)
			}
		}
	}
	for _, l := range [][]int{{3, 5, 4}, {5, 3, 4}, {unit, 3 * unit, 2 * unit}, {most / 2, most / 3, most}, {most / 2, most, most}} {
		slices.Sort(l)
		for range 3 {
			wantShare(t, l[0], l[1], l[2])
			wantShare(t, l[1], l[0], l[2])
			l = append(l[1:], l[0])
		}
	}
}
