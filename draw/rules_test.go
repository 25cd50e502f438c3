package draw_test

import (
	"bytes"
	"crypto/sha256"
	"math"
	"math/rand"
	"slices"
	"testing"

	"suffrage/api"
	"suffrage/draw"
)

// answer is all that a call returns, in one form for all calls.
type answer struct {
	number  uint64
	numbers []uint64
	lot     []int
	digest  [32]byte
	e       api.Errno
}

func (a answer) equal(b answer) bool {
	return a.number == b.number && slices.Equal(a.numbers, b.numbers) && slices.Equal(a.lot, b.lot) && a.digest == b.digest && a.e == b.e
}

func (a answer) twin() answer {
	a.numbers, a.lot = slices.Clone(a.numbers), slices.Clone(a.lot)
	return a
}

// scribble overwrites the memory of an answer up to the capacities.
func (a answer) scribble() {
	for i := range a.numbers[:cap(a.numbers)] {
		a.numbers[:cap(a.numbers)][i] ^= 0xa5
	}
	for i := range a.lot[:cap(a.lot)] {
		a.lot[:cap(a.lot)][i] ^= 0xa5
	}
}

func numberAnswer(seed [32]byte, i uint32, below uint64) answer {
	n, e := draw.Number(seed, i, below)
	return answer{number: n, e: e}
}

func sampleAnswer(seed [32]byte, from uint32, many int, below uint64) answer {
	l, e := draw.Sample(seed, from, many, below)
	return answer{numbers: l, e: e}
}

func lotAnswer(seed [32]byte, n int) answer {
	l, e := draw.Lot(seed, n)
	return answer{lot: l, e: e}
}

func mixAnswer(l [][]byte) answer {
	d, e := draw.Mix(l)
	return answer{digest: d, e: e}
}

// call is a call with its arguments, and the error that it returns.
type call struct {
	name string
	do   func() answer
	want api.Errno
}

// calls returns each of the package's calls, with arguments right and wrong.
func calls() []call {
	seed := rising()
	var l []call
	for _, c := range []struct {
		i     uint32
		below uint64
		want  api.Errno
	}{
		{0, 1, api.OK}, {7, 1000, api.OK}, {lastDraw, 1 << 32, api.OK}, {0, 0, api.ErrArg}, {lastDraw, 1<<32 + 1, api.ErrArg},
	} {
		l = append(l, call{"Number", func() answer { return numberAnswer(seed, c.i, c.below) }, c.want})
	}
	for _, c := range []struct {
		from  uint32
		many  int
		below uint64
		want  api.Errno
	}{
		{0, 0, 5, api.OK}, {0, 20, 5, api.OK}, {lastDraw, 1, 1 << 32, api.OK}, {3, 4096, 100, api.OK},
		{0, -1, 5, api.ErrArg}, {lastDraw, 2, 5, api.ErrArg}, {0, 5, 0, api.ErrArg}, {0, 4097, 5, api.ErrMany},
	} {
		l = append(l, call{"Sample", func() answer { return sampleAnswer(seed, c.from, c.many, c.below) }, c.want})
	}
	for n, want := range map[int]api.Errno{-1: api.ErrArg, 0: api.OK, 1: api.OK, 2: api.OK, 10: api.OK, 64: api.OK, 65: api.ErrArg} {
		l = append(l, call{"Lot", func() answer { return lotAnswer(seed, n) }, want})
	}
	for _, c := range []struct {
		fields [][]byte
		want   api.Errno
	}{
		{nil, api.OK}, {[][]byte{{}}, api.OK}, {[][]byte{{5, 6}, nil, filled(70)}, api.OK}, {[][]byte{filled(8190)}, api.OK},
		{[][]byte{filled(8191)}, api.ErrMany}, {[][]byte{{1}, filled(65536)}, api.ErrMany},
	} {
		l = append(l, call{"Mix", func() answer { return mixAnswer(c.fields) }, c.want})
	}
	return l
}

// R1

func TestR1ErrorsInOrder(t *testing.T) {
	for _, c := range []struct {
		name  string
		from  uint32
		many  int
		below uint64
		want  api.Errno
	}{
		{"many is too great", 0, 4097, 5, api.ErrMany},
		{"many is negative, and the bound 0", 0, -1, 0, api.ErrArg},
		{"many is too great, and the bound 0", 0, 4097, 0, api.ErrArg},
		{"many is too great, and the bound too", 0, 4097, 1<<32 + 1, api.ErrArg},
		{"many is too great, and so is from + many", lastDraw, 4097, 5, api.ErrArg},
		{"many is too great, and from + many is by one", lastDraw - 4095, 4097, 5, api.ErrArg},
		{"many is too great, and from + many just not", lastDraw - 4096, 4097, 5, api.ErrMany},
		{"many is too great, from + many too, and the bound 0", lastDraw, 4097, 0, api.ErrArg},
		{"many is too great alone, though it ends with all draw numbers", 0, 1 << 32, 5, api.ErrMany},
		{"many is more than all draw numbers", 0, 1<<32 + 1, 5, api.ErrArg},
		{"nothing is drawn, but the bound is 0", 0, 0, 0, api.ErrArg},
	} {
		if l, e := draw.Sample(rising(), c.from, c.many, c.below); e != c.want || len(l) != 0 {
			t.Errorf("%s: %d numbers, %d; want none, %d", c.name, len(l), int(e), int(c.want))
		}
	}
	for _, c := range calls() {
		if a := c.do(); a.e != c.want {
			t.Errorf("%s: error %d; want %d", c.name, int(a.e), int(c.want))
		}
	}
	if api.ErrArg != 2 || api.ErrMany != 4 || api.ErrNone != 6 {
		t.Errorf("ErrArg is %d, ErrMany is %d, ErrNone is %d", int(api.ErrArg), int(api.ErrMany), int(api.ErrNone))
	}
}

func TestR1NothingBesideAnError(t *testing.T) {
	failed := 0
	for _, c := range calls() {
		a := c.do()
		if a.e == api.OK {
			continue
		}
		failed++
		if !a.equal(answer{e: a.e}) {
			t.Errorf("%s: %v beside an error", c.name, a)
		}
	}
	if failed != 10 {
		t.Errorf("%d calls failed; want 10", failed)
	}
}

// R2

// fieldsIn returns fields that lie in memory with room behind each of them and behind the list, and all that memory.
func fieldsIn(sizes ...int) (fields [][]byte, list [][]byte, memory []byte) {
	memory = filled(300 * len(sizes))
	for i, size := range sizes {
		list = append(list, memory[300*i:300*i+size])
	}
	list = append(list, []byte{0xee}, []byte{0xee})
	return list[:len(sizes)], list, memory
}

func TestR2ArgumentsStay(t *testing.T) {
	for _, sizes := range [][]int{{}, {0}, {2, 0}, {64, 100, 250}, {1, 1, 1, 1}, slices.Repeat([]int{290}, 40)} {
		fields, list, memory := fieldsIn(sizes...)
		before, bytesBefore := slices.Clone(list), bytes.Clone(memory)
		draw.Mix(fields)
		if !bytes.Equal(memory, bytesBefore) {
			t.Errorf("Mix of %d fields changes their memory", len(fields))
		}
		if !slices.EqualFunc(list, before, sameSlice) {
			t.Errorf("Mix of %d fields changes their list", len(fields))
		}
	}
}

// sameSlice reports whether a and b are the same part of the same memory.
func sameSlice(a, b []byte) bool {
	return len(a) == len(b) && cap(a) == cap(b) && (cap(a) == 0 || &a[:1][0] == &b[:1][0])
}

// Seeds are handed in as arrays, which stay as they are.
func TestR2SeedsStay(t *testing.T) {
	seed := rising()
	draw.Number(seed, 5, 9)
	draw.Lot(seed, 30)
	draw.Sample(seed, 5, 30, 9)
	if seed != rising() {
		t.Errorf("the seed is %x", seed)
	}
}

func TestR2AnswersShareNothingWithArguments(t *testing.T) {
	fields, _, memory := fieldsIn(30, 0, 200)
	d := mix(t, fields)
	want, _ := modelMix(fields)
	for i := range memory {
		memory[i] ^= 0xa5
	}
	fields[0] = nil
	if d != want {
		t.Errorf("Mix: the answer changes with the argument")
	}
}

// A second answer depends neither on the first, nor on what became of it, nor on calls between.
func TestR2NothingIsKept(t *testing.T) {
	for _, c := range calls() {
		first := c.do()
		want := first.twin()
		first.scribble()
		for _, d := range calls() {
			d.do()
		}
		again := c.do()
		if !again.equal(want) {
			t.Errorf("%s: the second answer is %v; want %v", c.name, again, want)
		}
		first.scribble()
		if !again.equal(want) {
			t.Errorf("%s: the second answer shares memory with the first", c.name)
		}
	}
}

// R3

func TestR3NilAndEmptyAreEqual(t *testing.T) {
	part := [][]byte{{1}}[:0]
	if a, b, c := mix(t, nil), mix(t, [][]byte{}), mix(t, part); a != b || a != c {
		t.Errorf("Mix is %x of nil, %x of an empty list, %x of an empty part", a, b, c)
	}
	if a, b, c := mix(t, [][]byte{nil}), mix(t, [][]byte{{}}), mix(t, [][]byte{filled(5)[:0]}); a != b || a != c {
		t.Errorf("Mix is %x of nil, %x of an empty field, %x of an empty part", a, b, c)
	}
	if mix(t, nil) == mix(t, [][]byte{nil}) {
		t.Error("Mix of no field is Mix of one empty field")
	}
	if l, e := draw.Lot(rising(), 0); len(l) != 0 || e != api.OK {
		t.Errorf("the lot of 0 elements is %d, %d", l, int(e))
	}
	if l, e := draw.Sample(rising(), 9, 0, 9); len(l) != 0 || e != api.OK {
		t.Errorf("a sample of 0 numbers is %d, %d", l, int(e))
	}
}

// R4

// A draw number is hashed as four bytes, and the first byte of the digest is worth 2^56.
func TestR4MostSignificantFirst(t *testing.T) {
	seed := rising()
	for _, i := range []uint32{1, 256, 65536, 1 << 24, 0x01020304, 0xfffefdfc} {
		b := append(seed[:], byte(i>>24), byte(i>>16), byte(i>>8), byte(i), 0, 0, 0, 0)
		d := sha256.Sum256(b)
		want := uint64(d[4])<<24 | uint64(d[5])<<16 | uint64(d[6])<<8 | uint64(d[7])
		if n := number(t, seed, i, 1<<32); n != want {
			t.Errorf("Number(%x, %d, 2^32) = %d; want %d", seed, i, n, want)
		}
		const below = 1<<32 - 1 // for which 2^32 leaves 1, so that the halves of the try add up
		want = (uint64(d[0])<<24 | uint64(d[1])<<16 | uint64(d[2])<<8 | uint64(d[3])) + want
		if n := number(t, seed, i, below); n != want%below {
			t.Errorf("Number(%x, %d, 2^32 - 1) = %d; want %d", seed, i, n, want%below)
		}
	}
	long := make([]byte, 0x1234)
	if d := mix(t, [][]byte{long}); d != sha256.Sum256(append([]byte{0x12, 0x34}, long...)) {
		t.Errorf("the length of 0x1234 bytes is not hashed as 12 34: %x", d)
	}
}

// R5

// Numbers come in the order of their draw numbers, fields in that of their list, and the last position of a lot is exchanged first.
func TestR5Order(t *testing.T) {
	seed := rising()
	l := sample(t, seed, 10, 50, 1<<32)
	for j, n := range l {
		if want := number(t, seed, 10+uint32(j), 1<<32); n != want {
			t.Errorf("number %d of a sample from 10 is %d; want %d", j, n, want)
		}
	}
	if slices.IsSorted(l) {
		t.Error("the sample is sorted")
	}
	if mix(t, [][]byte{{1}, {2}}) == mix(t, [][]byte{{2}, {1}}) {
		t.Error("fields may be exchanged")
	}
	first := number(t, seed, 2, 3)
	second := number(t, seed, 1, 2)
	three := []int{0, 1, 2}
	three[2], three[first] = three[first], three[2]
	three[1], three[second] = three[second], three[1]
	if got := lot(t, seed, 3); !slices.Equal(got, three) {
		t.Errorf("the lot of 3 elements is %d; want %d", got, three)
	}
}

// R6

// from + many is computed without overflow, whatever both are.
func TestR6NothingOverflows(t *testing.T) {
	for _, from := range []uint32{0, 1, 2, 1 << 31, lastDraw - 1, lastDraw} {
		for _, many := range []int{math.MinInt, math.MinInt + 1, -1 << 32, -1, math.MaxInt - 1, math.MaxInt, 1<<33 - 1} {
			if l, e := draw.Sample(rising(), from, many, 9); e != api.ErrArg || len(l) != 0 {
				t.Errorf("Sample from %d, %d numbers: %d numbers, %d; want none, ErrArg", from, many, len(l), int(e))
			}
		}
		room := min(1<<32-int(from), api.MaxDraws)
		if l := sample(t, rising(), from, room, 1<<32); len(l) != room {
			t.Errorf("Sample from %d, %d numbers: %d numbers", from, room, len(l))
		}
	}
}

// All seeds, draw numbers and bytes are valid.
func TestR6ValuesAreValid(t *testing.T) {
	random := rand.New(rand.NewSource(63))
	for range 2000 {
		var seed [32]byte
		random.Read(seed[:])
		i, below, n := random.Uint32(), 1+random.Uint64()%api.MaxBelow, random.Intn(65)
		if want, _ := modelNumber(seed, i, below); number(t, seed, i, below) != want {
			t.Errorf("Number(%x, %d, %d) is not %d", seed, i, below, want)
		}
		if want, _ := modelLot(seed, n); !slices.Equal(lot(t, seed, n), want) {
			t.Errorf("Lot(%x, %d) is not %d", seed, n, want)
		}
		fields := [][]byte{seed[:n/2], make([]byte, random.Intn(4000)), make([]byte, random.Intn(4000))}
		random.Read(fields[1])
		random.Read(fields[2])
		if want, _ := modelMix(fields); mix(t, fields) != want {
			t.Errorf("Mix of %d bytes is not %x", concatenated(fields), want)
		}
	}
}

// R7

// A panic or an endless call would fail the test by itself.
func TestR7AnyArguments(t *testing.T) {
	numbers := []int{math.MinInt, -1 << 32, -65, -1, 0, 1, 2, 63, 64, 65, 4096, 4097, 1<<32 - 1, 1 << 32, 1<<32 + 1, math.MaxInt}
	belows := append([]uint64{1, 2, 3, 1<<32 - 1, 1 << 32}, wrongBounds...)
	for _, seed := range seeds()[:4] {
		for _, n := range numbers {
			draw.Lot(seed, n)
			for _, below := range belows {
				for _, from := range []uint32{0, 1, 1 << 31, lastDraw - 4095, lastDraw} {
					a, e := draw.Sample(seed, from, n, below)
					b, f := draw.Number(seed, from, below)
					if e == api.OK && n > 0 && (f != api.OK || a[0] != b) {
						t.Errorf("Sample(%x, %d, %d, %d) begins with %d; Number returns %d, %d", seed, from, n, below, a[0], b, int(f))
					}
				}
			}
		}
	}
	memory := make([]byte, 1<<20)
	for _, size := range []int{0, 1, 8189, 8190, 8191, 16382, 16383, 65535, 65536, 1 << 20} {
		for _, many := range []int{0, 1, 2, 3, 100, 10000} {
			draw.Mix(slices.Repeat([][]byte{memory[:size]}, many))
		}
	}
}
