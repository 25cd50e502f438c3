package nat_test

import (
	"fmt"
	"math"
	"math/big"
	"math/rand"
	"slices"
	"strconv"
	"strings"
	"testing"

	"suffrage/api"
	"suffrage/nat"
)

const most = math.MaxUint32 // the greatest limb

// answer is all that a call returns, in one form for all calls.
type answer struct {
	numbers [][]uint32
	word    uint64
	order   int
	same    bool
	text    string
	e       api.Errno
}

// equal reports whether two answers are equal. Nil and empty numbers are.
func (a answer) equal(b answer) bool {
	return slices.EqualFunc(a.numbers, b.numbers, slices.Equal) && a.word == b.word && a.order == b.order && a.same == b.same && a.text == b.text && a.e == b.e
}

// String shows an answer in a report.
func (a answer) String() string {
	return fmt.Sprintf("(%x, %d, %d, %t, %q, error %d)", a.numbers, a.word, a.order, a.same, a.text, int(a.e))
}

// isError reports whether the answer is this error and nothing beside it.
func (a answer) isError(e api.Errno) bool {
	for _, n := range a.numbers {
		if len(n) > 0 {
			return false
		}
	}
	a.numbers = nil
	return a.equal(answer{e: e})
}

// operation is a call for two numbers.
type operation struct {
	name string
	do   func(a, b []uint32) answer
}

func one(n []uint32, e api.Errno) answer { return answer{numbers: [][]uint32{n}, e: e} }

// operations returns the calls for two numbers that may return an error.
func operations() []operation {
	return []operation{
		{"Cmp", func(a, b []uint32) answer {
			order, e := nat.Cmp(a, b)
			return answer{order: order, e: e}
		}},
		{"Add", func(a, b []uint32) answer { return one(nat.Add(a, b)) }},
		{"Sub", func(a, b []uint32) answer { return one(nat.Sub(a, b)) }},
		{"Mul", func(a, b []uint32) answer { return one(nat.Mul(a, b)) }},
		{"Div", func(a, b []uint32) answer {
			q, r, e := nat.Div(a, b)
			return answer{numbers: [][]uint32{q, r}, e: e}
		}},
		{"Gcd", func(a, b []uint32) answer { return one(nat.Gcd(a, b)) }},
	}
}

// wanted returns what the operations, in their order, return for two valid numbers, as big.Int has it.
func wanted(a, b []uint32) []answer {
	x, y := bigOf(a), bigOf(b)
	l := []answer{{order: x.Cmp(y)}, result(new(big.Int).Add(x, y)), result(new(big.Int).Sub(x, y)), result(new(big.Int).Mul(x, y)), {e: api.ErrZero, numbers: make([][]uint32, 2)}, result(new(big.Int).GCD(nil, nil, x, y))}
	if len(b) > 0 {
		q, r := new(big.Int).QuoRem(x, y, new(big.Int))
		l[4] = answer{numbers: [][]uint32{limbsOf(q), limbsOf(r)}}
	}
	return l
}

// result returns the answer of an operation with that result.
func result(n *big.Int) answer {
	switch {
	case n.Sign() < 0:
		return one(nil, api.ErrNone)
	case n.BitLen() > 32*api.MaxLimbs:
		return one(nil, api.ErrGreat)
	}
	return one(limbsOf(n), api.OK)
}

// bigOf returns the number with limbs a, by the definition of its value.
func bigOf(a []uint32) *big.Int {
	n := new(big.Int)
	for i, limb := range a {
		n.Add(n, new(big.Int).Lsh(big.NewInt(int64(limb)), uint(32*i)))
	}
	return n
}

// limbsOf returns the limbs of n.
func limbsOf(n *big.Int) []uint32 {
	var a []uint32
	for rest := new(big.Int).Set(n); rest.Sign() > 0; rest.Rsh(rest, 32) {
		a = append(a, uint32(rest.Uint64()))
	}
	return a
}

// wantAll reports operations on two valid numbers, in both orders, that do not answer what is wanted.
func wantAll(t *testing.T, a, b []uint32) {
	t.Helper()
	wantOneOrder(t, a, b)
	wantOneOrder(t, b, a)
}

func wantOneOrder(t *testing.T, a, b []uint32) {
	t.Helper()
	for i, want := range wanted(a, b) {
		o := operations()[i]
		if got := o.do(a, b); !got.equal(want) {
			t.Errorf("%s(%x, %x) = %v; want %v", o.name, a, b, got, want)
		}
	}
}

// filled returns size limbs, each of them limb.
func filled(size int, limb uint32) []uint32 { return slices.Repeat([]uint32{limb}, size) }

// power returns 2^(32 i).
func power(i int) []uint32 { return append(make([]uint32, i), 1) }

// edges returns the numbers next to which a result may need another limb or another size.
func edges() [][]uint32 {
	l := [][]uint32{nil, {}, {1}, {2}, {3}, {7}, {10}, {999999999}, {1000000000}, {1000000001}, {1<<31 - 1}, {1 << 31}, {1<<31 + 1}, {most - 1}}
	for _, size := range []int{1, 2, 3, 4, 31, 32, 47, 48, 49, 94, 95, 96} {
		below := power(size - 1)
		below[0]++
		almost := filled(size, most)
		almost[0]--
		half := make([]uint32, size)
		half[size-1] = 1 << 31
		l = append(l, filled(size, most), almost, power(size-1), below, half, filled(size, 1))
	}
	return slices.DeleteFunc(l, func(a []uint32) bool { return nat.Check(a) != api.OK })
}

// shortNumbers returns all valid numbers of at most size limbs from the list.
func shortNumbers(size int, limbs ...uint32) [][]uint32 {
	l := [][]uint32{nil}
	tails := [][]uint32{nil}
	for range size {
		var longer [][]uint32
		for _, tail := range tails {
			for _, limb := range limbs {
				n := append([]uint32{limb}, tail...)
				if n[len(n)-1] != 0 {
					longer = append(longer, n)
				}
			}
		}
		l = append(l, longer...)
		tails = longer
	}
	return l
}

// randomNumber returns a valid number of at most size limbs; many of its limbs are 0 or the greatest one.
func randomNumber(r *rand.Rand, size int) []uint32 {
	a := make([]uint32, r.Intn(size+1))
	odd := r.Intn(4)
	for i := range a {
		switch r.Intn(4) - odd {
		case 0:
			a[i] = 0
		case -1:
			a[i] = most
		case -2:
			a[i] = 1 << r.Intn(32)
		default:
			a[i] = r.Uint32()
		}
	}
	if len(a) > 0 && a[len(a)-1] == 0 {
		a[len(a)-1] = 1 + uint32(r.Intn(most))
	}
	return a
}

// P3.1

func TestCheck(t *testing.T) {
	lastZero := func(size int) []uint32 { return append(filled(size-1, 5), 0) }
	for i, c := range []struct {
		a    []uint32
		want api.Errno
	}{
		{nil, api.OK}, {[]uint32{}, api.OK}, {[]uint32{1}, api.OK}, {[]uint32{most}, api.OK}, {[]uint32{0, 1}, api.OK}, {[]uint32{0, 0, 1 << 31}, api.OK},
		{filled(api.MaxLimbs-1, 1), api.OK}, {filled(api.MaxLimbs, 1), api.OK}, {filled(api.MaxLimbs, most), api.OK}, {power(api.MaxLimbs - 1), api.OK},
		{[]uint32{0}, api.ErrBad}, {[]uint32{1, 0}, api.ErrBad}, {[]uint32{0, 0}, api.ErrBad}, {[]uint32{0, 1, 0}, api.ErrBad}, {lastZero(api.MaxLimbs), api.ErrBad}, {filled(api.MaxLimbs, 0), api.ErrBad},
		{filled(api.MaxLimbs+1, 1), api.ErrMany}, {power(api.MaxLimbs), api.ErrMany}, {filled(1<<20, 1), api.ErrMany},
		{lastZero(api.MaxLimbs + 1), api.ErrMany}, {filled(api.MaxLimbs+1, 0), api.ErrMany}, {make([]uint32, 1<<20), api.ErrMany},
	} {
		if got := nat.Check(c.a); got != c.want {
			t.Errorf("%d: Check of %d limbs = %d; want %d", i, len(c.a), int(got), int(c.want))
		}
	}
}

func TestOfAndWord(t *testing.T) {
	words := []uint64{0, 1, 2, 258, 1<<31 - 1, 1 << 31, 1<<32 - 2, 1<<32 - 1, 1 << 32, 1<<32 + 1, 1<<33 - 1, 1 << 33, 5 << 32, 1<<63 - 1, 1 << 63, 1<<63 + 1, 1<<64 - 1<<32 - 1, 1<<64 - 1<<32, math.MaxUint64 - 1, math.MaxUint64, 0x0123456789abcdef}
	for _, n := range words {
		a := nat.Of(n)
		if want := limbsOf(new(big.Int).SetUint64(n)); !slices.Equal(a, want) {
			t.Errorf("Of(%d) = %x; want %x", n, a, want)
		}
		if got, e := nat.Word(a); got != n || e != api.OK {
			t.Errorf("Word(%x) = %d, %d; want %d", a, got, int(e), n)
		}
	}
	for _, a := range [][]uint32{power(2), {1, 0, 1}, {5, 7, most}, {most, most, 1}, filled(3, most), power(3), power(95), filled(96, 1)} {
		if got, e := nat.Word(a); got != 0 || e != api.ErrGreat {
			t.Errorf("Word(%x) = %d, %d; want ErrGreat", a, got, int(e))
		}
	}
}

func TestWordRejectsInvalidNumbers(t *testing.T) {
	for _, c := range invalid() {
		if got, e := nat.Word(c.a); got != 0 || e != c.e {
			t.Errorf("Word of %s = %d, %d; want %d", c.name, got, int(e), int(c.e))
		}
	}
}

func TestSame(t *testing.T) {
	l := [][]uint32{{1}, {2}, {0}, {0, 0}, {1, 0}, {0, 1}, {1, 1}, {2, 1}, {1, 2}, {1, 0, 0}, {1, 2, 3}, {1, 3, 3}, {1, 2, 4}, {0, 2, 3}, filled(96, most), append(filled(95, most), 1), append([]uint32{1}, filled(95, most)...), filled(97, 0), filled(97, most), filled(1000, 7), filled(1001, 7), append(filled(999, 7), 8), nil}
	for i, a := range l {
		for j, b := range l {
			if got := nat.Same(slices.Clone(a), slices.Clone(b)); got != (i == j) {
				t.Errorf("Same(%x, %x) = %t", a, b, got)
			}
		}
	}
	if !nat.Same(nil, []uint32{}) || !nat.Same([]uint32{}, nil) || !nat.Same([]uint32{}, []uint32{}) {
		t.Error("nil and empty are not the same")
	}
}

func TestCmp(t *testing.T) {
	ordered := [][]uint32{nil, {1}, {2}, {1<<31 - 1}, {1 << 31}, {most - 1}, {most}, {0, 1}, {1, 1}, {most, 1}, {0, 2}, {most, 2}, {0, most}, {most, most}, {0, 0, 1}, {1, 0, 1}, {0, 1, 1}, {5, 0, 2}, {4, 5, 2}}
	for _, size := range []int{50, 95, 96} {
		first, last := filled(size, 5), filled(size, 5)
		first[0], last[size-1] = 6, 6
		ordered = append(ordered, filled(size, 5), first, last, filled(size, most))
	}
	for i, a := range ordered {
		for j, b := range ordered {
			want := 0
			if i < j {
				want = -1
			} else if i > j {
				want = 1
			}
			if got, e := nat.Cmp(a, b); got != want || e != api.OK {
				t.Errorf("Cmp(%x, %x) = %d, %d; want %d", a, b, got, int(e), want)
			}
		}
	}
}

// P3.2 and P3.3

func TestOperationsOnEdges(t *testing.T) {
	l := edges()
	for i, a := range l {
		for _, b := range l[i:] {
			wantAll(t, a, b)
		}
	}
}

func TestOperationsOnShortNumbers(t *testing.T) {
	l := shortNumbers(3, 0, 1, 1<<31-1, 1<<31, most)
	if len(l) != 1+4+20+100 {
		t.Fatalf("%d numbers", len(l))
	}
	for i, a := range l {
		for _, b := range l[i:] {
			wantAll(t, a, b)
		}
	}
}

func TestOperationsOnRandomNumbers(t *testing.T) {
	r := rand.New(rand.NewSource(3))
	for range 4000 {
		size := 1 + r.Intn(api.MaxLimbs)
		wantAll(t, randomNumber(r, size), randomNumber(r, size))
		wantAll(t, randomNumber(r, api.MaxLimbs), randomNumber(r, 3))
	}
}

func TestAddUpToMaxLimbs(t *testing.T) {
	all := filled(api.MaxLimbs, most)
	half := append(make([]uint32, api.MaxLimbs-1), 1<<31)
	below := append(filled(api.MaxLimbs-1, most), 1<<31-1)
	for i, c := range []struct{ a, b, want []uint32 }{
		{all, nil, all},
		{append([]uint32{most - 1}, all[1:]...), nat.Of(1), all},
		{half, below, all},
		{filled(api.MaxLimbs-1, most), nat.Of(1), power(api.MaxLimbs - 1)},
		{all, nat.Of(1), nil},
		{all, all, nil},
		{half, half, nil},
		{all, power(api.MaxLimbs - 1), nil},
	} {
		wantAll(t, c.a, c.b)
		sum, e := nat.Add(c.a, c.b)
		if wantE := errorUnless(c.want != nil, api.ErrGreat); e != wantE || !slices.Equal(sum, c.want) {
			t.Errorf("%d: Add = %x, %d; want %x, %d", i, sum, int(e), c.want, int(wantE))
		}
	}
}

func errorUnless(ok bool, e api.Errno) api.Errno {
	if ok {
		return api.OK
	}
	return e
}

func TestSubToZeroAndBelow(t *testing.T) {
	for _, a := range edges() {
		if rest, e := nat.Sub(a, slices.Clone(a)); len(rest) != 0 || e != api.OK {
			t.Errorf("Sub(a, a) = %x, %d for %x", rest, int(e), a)
		}
		more, e := nat.Add(a, nat.Of(1))
		if e != api.OK {
			continue
		}
		if rest, e := nat.Sub(a, more); rest != nil || e != api.ErrNone {
			t.Errorf("Sub(a, a + 1) = %x, %d for %x", rest, int(e), a)
		}
		if rest, e := nat.Sub(more, a); !slices.Equal(rest, []uint32{1}) || e != api.OK {
			t.Errorf("Sub(a + 1, a) = %x, %d for %x", rest, int(e), a)
		}
	}
	if rest, e := nat.Sub(power(95), nat.Of(1)); !slices.Equal(rest, filled(95, most)) || e != api.OK {
		t.Errorf("Sub(2^3040, 1) = %x, %d", rest, int(e))
	}
}

func TestMulUpToMaxLimbs(t *testing.T) {
	for i := range api.MaxLimbs {
		for _, j := range []int{api.MaxLimbs - 2 - i, api.MaxLimbs - 1 - i, api.MaxLimbs - i} {
			if j < 0 || j >= api.MaxLimbs {
				continue
			}
			wantAll(t, power(i), power(j))
			wantAll(t, filled(i, most), filled(j, most))
			wantAll(t, filled(i+1, most), filled(j+1, most)) // one limb more than the product of the powers
		}
	}
	all := filled(api.MaxLimbs, most)
	for _, c := range []struct {
		a, b []uint32
		e    api.Errno
	}{
		{all, nil, api.OK}, {nil, all, api.OK}, {all, nat.Of(1), api.OK}, {all, nat.Of(2), api.ErrGreat}, {all, all, api.ErrGreat},
		{power(48), power(47), api.OK}, {power(48), power(48), api.ErrGreat}, {filled(48, most), filled(48, most), api.OK},
		{append(filled(95, most), 1<<31-1), nat.Of(2), api.OK}, {append(make([]uint32, 95), 1<<31), nat.Of(2), api.ErrGreat},
	} {
		if p, e := nat.Mul(c.a, c.b); e != c.e || e != api.OK && p != nil {
			t.Errorf("Mul(%x, %x) = %x, %d; want error %d", c.a, c.b, p, int(e), int(c.e))
		}
	}
}

func TestExamplesOfNumbers(t *testing.T) {
	if p, e := nat.Mul(nat.Of(4294967296), nat.Of(4294967295)); e != api.OK || !slices.Equal(p, []uint32{0, 4294967295}) {
		t.Error(p, int(e))
	}
	if q, r, e := nat.Div(nat.Of(100), nat.Of(7)); e != api.OK || !slices.Equal(q, []uint32{14}) || !slices.Equal(r, []uint32{2}) {
		t.Error(q, r, int(e))
	}
	if d, e := nat.Gcd(nat.Of(12), nat.Of(18)); e != api.OK || !slices.Equal(d, []uint32{6}) {
		t.Error(d, int(e))
	}
}

func TestDivByZero(t *testing.T) {
	for _, a := range edges() {
		for _, zero := range [][]uint32{nil, {}} {
			if q, r, e := nat.Div(a, zero); q != nil || r != nil || e != api.ErrZero {
				t.Errorf("Div(%x, 0) = %x, %x, %d", a, q, r, int(e))
			}
		}
	}
}

// wantDiv reports a division that is not the wanted one.
func wantDiv(t *testing.T, a, b, wantQ, wantR []uint32) {
	t.Helper()
	if q, r, e := nat.Div(a, b); e != api.OK || !slices.Equal(q, wantQ) || !slices.Equal(r, wantR) {
		t.Errorf("Div(%x, %x) = %x, %x, %d; want %x, %x", a, b, q, r, int(e), wantQ, wantR)
	}
}

func TestDivOfProducts(t *testing.T) {
	for _, b := range edges() {
		if len(b) == 0 {
			continue
		}
		wantDiv(t, nil, b, nil, nil)
		wantDiv(t, b, b, nat.Of(1), nil)
		wantDiv(t, b, nat.Of(1), b, nil)
		greatest, _ := nat.Sub(b, nat.Of(1))
		wantDiv(t, greatest, b, nil, greatest)
		for _, q := range edges() {
			p, e := nat.Mul(q, b)
			if e != api.OK {
				continue
			}
			wantDiv(t, p, b, q, nil)
			if sum, e := nat.Add(p, greatest); e == api.OK {
				wantDiv(t, sum, b, q, greatest)
			}
		}
	}
}

// A first guess of a limb of the quotient is too great here, also by 2, in the first limb, in the last one, and in all.
func TestDivWhereGuessesAreTooGreat(t *testing.T) {
	for _, b := range [][]uint32{{most, 1 << 31}, {most, most, 1 << 31}, {most, 0, 1 << 31}, {1, 0, 1 << 31}, {most, 1}, {most, most, 1}, append(filled(40, most), 1<<31)} {
		for size := range 40 {
			q := filled(size, most)
			wantAll(t, product(t, q, b), b)
			rest, _ := nat.Sub(b, nat.Of(1))
			sum, e := nat.Add(product(t, q, b), rest)
			if e != api.OK {
				t.Fatal(size, int(e))
			}
			wantAll(t, sum, b)
			wantAll(t, append(make([]uint32, size+len(b)-1), 1<<31), b)
			wantAll(t, append(filled(size+len(b)-1, most), 1<<31-1), b)
		}
	}
}

func product(t *testing.T, a, b []uint32) []uint32 {
	t.Helper()
	p, e := nat.Mul(a, b)
	if e != api.OK {
		t.Fatalf("Mul(%x, %x): error %d", a, b, int(e))
	}
	return p
}

func TestGcd(t *testing.T) {
	fibonacci := func(n int) []uint32 {
		a, b := nat.Of(0), nat.Of(1)
		for range n {
			sum, e := nat.Add(a, b)
			if e != api.OK {
				t.Fatal(n, int(e))
			}
			a, b = b, sum
		}
		return a
	}
	for i, c := range []struct{ a, b, want []uint32 }{
		{nil, nil, nil}, {[]uint32{}, nil, nil},
		{nil, nat.Of(5), nat.Of(5)}, {nil, filled(96, most), filled(96, most)},
		{nat.Of(1), nil, nat.Of(1)}, {nat.Of(1), filled(96, most), nat.Of(1)},
		{nat.Of(12), nat.Of(18), nat.Of(6)}, {nat.Of(7), nat.Of(7), nat.Of(7)}, {nat.Of(7), nat.Of(21), nat.Of(7)},
		{filled(96, most), filled(96, most), filled(96, most)}, {filled(96, most), filled(48, most), filled(48, most)}, {filled(90, most), filled(84, most), filled(6, most)},
		{power(95), power(40), power(40)}, {power(95), filled(96, most), nat.Of(1)},
		{nat.Of(1 << 63), nat.Of(1<<63 - 1), nat.Of(1)}, {nat.Of(4294967291), nat.Of(4294967279), nat.Of(1)},
		{fibonacci(4424), fibonacci(4423), nat.Of(1)}, {fibonacci(4420), fibonacci(4400), fibonacci(20)}, // as many steps as there can be
	} {
		for _, p := range [][2][]uint32{{c.a, c.b}, {c.b, c.a}} {
			if d, e := nat.Gcd(p[0], p[1]); e != api.OK || !slices.Equal(d, c.want) {
				t.Errorf("%d: Gcd = %x, %d; want %x", i, d, int(e), c.want)
			}
		}
	}
}

// P3.4

// wantText reports a number whose text, or a text whose number, is not the wanted one.
func wantText(t *testing.T, a []uint32, s string) {
	t.Helper()
	if got, e := nat.Text(a); got != s || e != api.OK {
		t.Errorf("Text(%x) = %q, %d; want %q", a, got, int(e), s)
	}
	wantRead(t, s, a, api.OK)
}

func wantRead(t *testing.T, s string, want []uint32, wantE api.Errno) {
	t.Helper()
	if a, e := nat.Read(s); !slices.Equal(a, want) || e != wantE {
		t.Errorf("Read(%.60q..) of %d bytes = %x, %d; want %x, %d", s, len(s), a, int(e), want, int(wantE))
	}
}

func TestTextAndRead(t *testing.T) {
	for s, a := range map[string][]uint32{
		"0": nil, "1": {1}, "9": {9}, "10": {10}, "11": {11}, "100": {100}, "101": {101}, "4294967295": {most}, "4294967296": {0, 1}, "4294967297": {1, 1},
		"999999999": {999999999}, "1000000000": {1000000000}, "1000000001": {1000000001}, "1000000010": {1000000010}, "18446744069414584320": {0, most},
		"18446744073709551615": {most, most}, "18446744073709551616": {0, 0, 1}, "18446744073709551617": {1, 0, 1},
	} {
		wantText(t, a, s)
	}
	for _, a := range edges() {
		wantText(t, a, bigOf(a).String())
	}
	r := rand.New(rand.NewSource(4))
	for range 2000 {
		a := randomNumber(r, 1+r.Intn(api.MaxLimbs))
		wantText(t, a, bigOf(a).String())
	}
}

// Numbers with many zeros, and with each number of digits.
func TestTextAndReadOfEachLength(t *testing.T) {
	power, unit := big.NewInt(1), big.NewInt(1)
	for digits := 1; digits <= 924; digits++ {
		for _, n := range []*big.Int{power, new(big.Int).Add(power, unit), new(big.Int).Sub(power, unit)} {
			wantText(t, limbsOf(n), n.String())
		}
		power = new(big.Int).Mul(power, big.NewInt(10))
	}
}

func TestTextRejectsInvalidNumbers(t *testing.T) {
	for _, c := range invalid() {
		if s, e := nat.Text(c.a); s != "" || e != c.e {
			t.Errorf("Text of %s = %q, %d; want %d", c.name, s, int(e), int(c.e))
		}
	}
}

func TestReadRejectsOtherForms(t *testing.T) {
	zeros := strings.Repeat("0", 1000)
	for _, s := range []string{
		"", "-", "+", "00", "000", "01", "07", "007", "00123", zeros, "+1", "-1", "+0", "-0", "--1", "1-", "1+", " ", " 1", "1 ", "1 2", "1\n", "\t1", "1_000", "1,000", "1.0", "1.", ".5", "1e3", "0x10", "0b1", "0o7", "a", "a1", "1a", "1/2", "/", ":", "1:", "1/",
		"\x00", "5\x00", "\x005", "\xb5", "\xff", "٣", "５", "−5", "NaN", "inf", "0 ", "0-", "0a", "10000000000000000000a", "4294967296 ",
	} {
		wantRead(t, s, nil, api.ErrForm)
	}
}

func TestReadOfEachByte(t *testing.T) {
	for b := range 256 {
		c := string([]byte{byte(b)})
		for _, s := range []string{c, "1" + c, c + "1", "1" + c + "1", "12345678901234567890" + c, c + "12345678901234567890"} {
			n, ok := new(big.Int).SetString(s, 10)
			if !ok || n.String() != s || n.Sign() < 0 {
				wantRead(t, s, nil, api.ErrForm)
			} else {
				wantRead(t, s, limbsOf(n), api.OK)
			}
		}
	}
}

func TestReadOfShortStrings(t *testing.T) {
	numbers := 0
	all := []string{""}
	for range 5 {
		var longer []string
		for _, s := range all {
			for _, c := range "+-0179 x" {
				longer = append(longer, s+string(c))
			}
		}
		all = longer
		for _, s := range all {
			n, err := strconv.Atoi(s)
			if err != nil || n < 0 || strconv.Itoa(n) != s {
				wantRead(t, s, nil, api.ErrForm)
				continue
			}
			numbers++
			wantRead(t, s, nat.Of(uint64(n)), api.OK)
		}
	}
	if numbers != 1+3+3*4+3*4*4+3*4*4*4+3*4*4*4*4 {
		t.Errorf("%d numbers", numbers)
	}
}

func TestReadUpToMaxLimbs(t *testing.T) {
	limit := new(big.Int).Lsh(big.NewInt(1), 32*api.MaxLimbs)
	for d := int64(-20); d <= 20; d++ {
		n := new(big.Int).Add(limit, big.NewInt(d))
		if d < 0 {
			wantRead(t, n.String(), limbsOf(n), api.OK)
		} else {
			wantRead(t, n.String(), nil, api.ErrGreat)
		}
	}
	digits := len(limit.String())
	wantRead(t, "1"+strings.Repeat("0", digits-1), limbsOf(new(big.Int).Exp(big.NewInt(10), big.NewInt(int64(digits-1)), nil)), api.OK)
	for _, s := range []string{limit.String() + "0", "6" + strings.Repeat("0", digits-1), strings.Repeat("9", digits), "1" + strings.Repeat("0", digits), strings.Repeat("9", 5000), "1" + strings.Repeat("0", 5000), strings.Repeat("123", 1<<20)} {
		wantRead(t, s, nil, api.ErrGreat)
		for _, other := range []string{"0" + s, "-" + s, "+" + s, " " + s, s + " ", s + "-", s + "a", s + "\n", s + "\x00", s[:len(s)/2] + "." + s[len(s)/2:]} {
			wantRead(t, other, nil, api.ErrForm)
		}
	}
}

// Powers of 2 far above the limit, whose limbs within the limit are all 0, and others.
func TestReadOfFarTooGreatNumbers(t *testing.T) {
	for _, shift := range []uint{3072, 3073, 3103, 3104, 3105, 4096, 6144, 20000} {
		for _, d := range []int64{0, 1, 7, 1 << 40} {
			n := new(big.Int).Lsh(big.NewInt(1), shift)
			wantRead(t, n.Add(n, big.NewInt(d)).String(), nil, api.ErrGreat)
		}
	}
}

// P3.5

// law reports two sides of a law that are not equal. Sides with an error on the way are left out, but for those of the two orders.
func law(t *testing.T, name string, left, right []uint32, e ...api.Errno) {
	t.Helper()
	for _, x := range e {
		if x != api.OK {
			return
		}
	}
	if !slices.Equal(left, right) {
		t.Errorf("%s: %x is not %x", name, left, right)
	}
}

func wantLaws(t *testing.T, a, b, c []uint32) {
	t.Helper()
	ab, e1 := nat.Add(a, b)
	ba, e2 := nat.Add(b, a)
	bc, e3 := nat.Add(b, c)
	left, e4 := nat.Add(ab, c)
	right, e5 := nat.Add(a, bc)
	law(t, "a + b = b + a", append(ab, uint32(e1)), append(ba, uint32(e2)))
	law(t, "(a + b) + c = a + (b + c)", left, right, e1, e3, e4, e5)
	ac, e6 := nat.Mul(a, c)
	bc2, e7 := nat.Mul(b, c)
	left, e8 := nat.Mul(ab, c)
	right, e9 := nat.Add(ac, bc2)
	law(t, "(a + b) c = a c + b c", left, right, e1, e6, e7, e8, e9)
	ab, e1 = nat.Mul(a, b)
	ba, e2 = nat.Mul(b, a)
	left, e4 = nat.Mul(ab, c)
	right, e5 = nat.Mul(a, bc2)
	law(t, "a b = b a", append(ab, uint32(e1)), append(ba, uint32(e2)))
	law(t, "(a b) c = a (b c)", left, right, e1, e4, e5, e7)
	if e1 == api.OK && e7 == api.OK && e4 != e5 && len(a) > 0 && len(c) > 0 {
		t.Errorf("(a b) c: error %d; a (b c): error %d", int(e4), int(e5))
	}
}

func TestLawsOfAddAndMul(t *testing.T) {
	for _, a := range shortNumbers(2, 0, 1, 1<<31, most) {
		for _, b := range shortNumbers(2, 0, 2, most) {
			for _, c := range shortNumbers(2, 0, 3, most) {
				wantLaws(t, a, b, c)
			}
		}
	}
	r := rand.New(rand.NewSource(5))
	for range 3000 {
		size := 1 + r.Intn(api.MaxLimbs)
		wantLaws(t, randomNumber(r, size), randomNumber(r, size/2+1), randomNumber(r, size/3+1))
	}
	all := filled(api.MaxLimbs, most)
	wantLaws(t, all, all, all)
	wantLaws(t, all, nat.Of(1), nil)
	wantLaws(t, filled(32, most), filled(32, most), filled(32, most))
}

// wantDivisionLaws checks a = q * b + r and r < b, for a b that is not 0.
func wantDivisionLaws(t *testing.T, a, b []uint32) {
	t.Helper()
	q, r, e := nat.Div(a, b)
	p, e1 := nat.Mul(q, b)
	sum, e2 := nat.Add(p, r)
	order, e3 := nat.Cmp(r, b)
	if e != api.OK || e1 != api.OK || e2 != api.OK || e3 != api.OK || order != -1 || !slices.Equal(sum, a) {
		t.Errorf("Div(%x, %x) = %x, %x, %d", a, b, q, r, int(e))
	}
}

// wantCoprime divides a and b, not both 0, by their greatest common divisor.
func wantCoprime(t *testing.T, a, b []uint32) {
	t.Helper()
	d, e := nat.Gcd(a, b)
	x, restA, e1 := nat.Div(a, d)
	y, restB, e2 := nat.Div(b, d)
	again, e3 := nat.Gcd(x, y)
	if e != api.OK || e1 != api.OK || e2 != api.OK || e3 != api.OK || len(restA) > 0 || len(restB) > 0 || !slices.Equal(again, []uint32{1}) {
		t.Errorf("Gcd(%x, %x) = %x, %d", a, b, d, int(e))
	}
}

func TestLawsOfDivAndGcd(t *testing.T) {
	for _, a := range edges() {
		for _, b := range edges() {
			if len(b) > 0 {
				wantDivisionLaws(t, a, b)
				wantCoprime(t, a, b)
				wantCoprime(t, b, a)
			}
		}
	}
	r := rand.New(rand.NewSource(6))
	for range 2000 {
		a, b, d := randomNumber(r, 48), randomNumber(r, 48), randomNumber(r, 48)
		if len(a) == 0 || len(b) == 0 || len(d) == 0 {
			continue
		}
		a, b = product(t, a, d), product(t, b, d)
		wantDivisionLaws(t, a, b)
		wantCoprime(t, a, b)
		common, _ := nat.Gcd(a, b)
		if _, rest, e := nat.Div(common, d); e != api.OK || len(rest) > 0 {
			t.Errorf("Gcd(%x, %x) = %x, which %x does not divide", a, b, common, d)
		}
	}
}
