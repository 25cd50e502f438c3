package draw_test

import (
	"bytes"
	"crypto/sha256"
	"encoding/hex"
	"math"
	"math/big"
	"math/rand"
	"slices"
	"testing"

	"suffrage/api"
	"suffrage/draw"
)

const lastDraw = math.MaxUint32 // the greatest draw number

// bounds returns bounds between 1 and MaxBelow: the edges, powers of two and their neighbours, and random ones.
func bounds() []uint64 {
	l := []uint64{1, 2, 3, 5, 6, 7, 10, 1000, 274177, 1<<31 - 1, 1 << 31, 1<<31 + 1, 1<<32 - 65535, 1<<32 - 2, 1<<32 - 1, 1 << 32}
	for bit := 2; bit < 31; bit++ {
		l = append(l, 1<<bit-1, 1<<bit, 1<<bit+1)
	}
	random := rand.New(rand.NewSource(61))
	for range 20 {
		l = append(l, 1+random.Uint64()%api.MaxBelow)
	}
	return l
}

// wrongBounds are bounds below which no number is drawn.
var wrongBounds = []uint64{0, 1<<32 + 1, 1<<32 + 2, 1 << 33, 1<<33 + 6, 1 << 63, math.MaxUint64}

// seeds returns seeds of all kinds: zeros, ones, bytes that differ, one bit each in the first and the last byte, and random ones.
func seeds() [][32]byte {
	l := [][32]byte{{}, {0: 128}, {31: 1}, rising(), [32]byte(bytes.Repeat([]byte{255}, 32))}
	random := rand.New(rand.NewSource(62))
	for range 5 {
		var seed [32]byte
		random.Read(seed[:])
		l = append(l, seed)
	}
	return l
}

// rising returns the seed of the bytes 0, 1, 2 and so on.
func rising() (seed [32]byte) {
	for i := range seed {
		seed[i] = byte(i)
	}
	return seed
}

func number(t *testing.T, seed [32]byte, i uint32, below uint64) uint64 {
	t.Helper()
	n, e := draw.Number(seed, i, below)
	if e != api.OK {
		t.Fatalf("Number(%x, %d, %d): error %d", seed, i, below, int(e))
	}
	return n
}

func lot(t *testing.T, seed [32]byte, n int) []int {
	t.Helper()
	l, e := draw.Lot(seed, n)
	if e != api.OK {
		t.Fatalf("Lot(%x, %d): error %d", seed, n, int(e))
	}
	return l
}

func sample(t *testing.T, seed [32]byte, from uint32, many int, below uint64) []uint64 {
	t.Helper()
	l, e := draw.Sample(seed, from, many, below)
	if e != api.OK {
		t.Fatalf("Sample(%x, %d, %d, %d): error %d", seed, from, many, below, int(e))
	}
	return l
}

func mix(t *testing.T, l [][]byte) [32]byte {
	t.Helper()
	d, e := draw.Mix(l)
	if e != api.OK {
		t.Fatalf("Mix of %d fields: error %d", len(l), int(e))
	}
	return d
}

// P6.1: Number

func TestNumber(t *testing.T) {
	ones := [32]byte(bytes.Repeat([]byte{255}, 32))
	below := []uint64{1, 2, 3, 10, 1 << 31, 1<<32 - 1, 1 << 32}
	for _, c := range []struct {
		seed [32]byte
		i    uint32
		want []uint64
	}{
		{[32]byte{}, 0, []uint64{0, 0, 0, 8, 1916502924, 510677418, 4063986572}},
		{[32]byte{}, 1, []uint64{0, 0, 0, 4, 183832136, 3336865794, 2331315784}},
		{[32]byte{}, lastDraw, []uint64{0, 1, 1, 5, 555717499, 626583970, 2703201147}},
		{rising(), 0, []uint64{0, 1, 1, 1, 691701949, 3541134781, 691701949}},
		{rising(), 1, []uint64{0, 0, 2, 8, 1520963414, 111641663, 3668447062}},
		{rising(), lastDraw, []uint64{0, 0, 0, 2, 33864438, 2073004452, 33864438}},
		{ones, 0, []uint64{0, 1, 2, 5, 1347901789, 1982647490, 3495385437}},
		{ones, 1, []uint64{0, 0, 1, 2, 115856206, 1648898497, 115856206}},
		{ones, lastDraw, []uint64{0, 1, 1, 7, 1267414491, 1702392457, 3414898139}},
	} {
		for j, want := range c.want {
			if n := number(t, c.seed, c.i, below[j]); n != want {
				t.Errorf("Number(%x, %d, %d) = %d; want %d", c.seed, c.i, below[j], n, want)
			}
		}
	}
}

// The example of the chapter: below 1 there is only 0, for any seed.
func TestNumberBelowOne(t *testing.T) {
	for _, seed := range seeds() {
		for _, i := range []uint32{0, 1, 2, lastDraw} {
			if n := number(t, seed, i, 1); n != 0 {
				t.Errorf("Number(%x, %d, 1) = %d; want 0", seed, i, n)
			}
		}
	}
}

func TestNumberOfEveryBound(t *testing.T) {
	for _, seed := range seeds() {
		for _, below := range bounds() {
			for _, i := range []uint32{0, 1, 2, 255, 256, 65536, 1 << 24, 1 << 31, lastDraw - 1, lastDraw} {
				want, _ := modelNumber(seed, i, below)
				if n := number(t, seed, i, below); n != want || n >= below {
					t.Errorf("Number(%x, %d, %d) = %d; want %d", seed, i, below, n, want)
				}
			}
		}
	}
}

func TestNumberRejectsBounds(t *testing.T) {
	for _, seed := range seeds() {
		for _, below := range wrongBounds {
			for _, i := range []uint32{0, 1, lastDraw} {
				if n, e := draw.Number(seed, i, below); e != api.ErrArg || n != 0 {
					t.Errorf("Number(%x, %d, %d) = %d, %d; want 0, ErrArg", seed, i, below, n, int(e))
				}
			}
		}
	}
}

// Below a power of two every try is small enough, so the number is the end of the first one.
func TestNumberBelowPowersOfTwo(t *testing.T) {
	for _, seed := range seeds() {
		for bit := range 33 {
			want := modelTry(seed, 7, 0).Uint64() & (1<<bit - 1)
			if n := number(t, seed, 7, 1<<bit); n != want {
				t.Errorf("Number(%x, 7, 2^%d) = %d; want %d", seed, bit, n, want)
			}
		}
	}
}

// Every bit of the seed and of the draw number counts.
func TestNumberOfEachBit(t *testing.T) {
	seen := map[uint64]bool{number(t, [32]byte{}, 0, 1<<32): true}
	check := func(seed [32]byte, i uint32) {
		n := number(t, seed, i, 1<<32)
		if want, _ := modelNumber(seed, i, 1<<32); n != want {
			t.Errorf("Number(%x, %d, 2^32) = %d; want %d", seed, i, n, want)
		}
		if seen[n] {
			t.Errorf("Number(%x, %d, 2^32) = %d, as for others", seed, i, n)
		}
		seen[n] = true
	}
	for bit := range 256 {
		var seed [32]byte
		seed[bit/8] = 1 << (bit % 8)
		check(seed, 0)
	}
	for bit := range 32 {
		check([32]byte{}, 1<<bit)
	}
}

// rareTry is a seed and a draw number whose first try is too great for some bounds: one of 2^32 is, so these were found by trying out as many.
type rareTry struct {
	seed [32]byte
	i    uint32
	try  uint64
}

func rareTries() []rareTry {
	return []rareTry{
		{[32]byte{}, 2233542690, 18446744071419385846},
		{[32]byte{}, 2825203572, 18446744070956507051},
		{[32]byte{31: 1}, 1217355874, 18446744072191314041},
		{[32]byte{31: 3}, 279707313, 18446744073301805157},
	}
}

// rest returns the remainder of 2^64 modulo n.
func rest(n uint64) uint64 {
	return new(big.Int).Mod(twoTo64(), new(big.Int).SetUint64(n)).Uint64()
}

func TestNumberPassesOverGreatTries(t *testing.T) {
	for _, c := range rareTries() {
		if try := modelTry(c.seed, c.i, 0); try.Uint64() != c.try {
			t.Fatalf("the first try for %x and %d is %d", c.seed, c.i, try)
		}
		second := modelTry(c.seed, c.i, 1).Uint64()
		over, under := 0, 0
		for d := uint64(0); d < 70000; d += 97 {
			below := 1<<32 - d
			want := second % below
			if c.try <= math.MaxUint64-rest(below) {
				want = c.try % below
				under++
			} else {
				over++
			}
			if n := number(t, c.seed, c.i, below); n != want {
				t.Errorf("Number(%x, %d, %d) = %d; want %d", c.seed, c.i, below, n, want)
			}
			if l := sample(t, c.seed, c.i-1, 3, below); l[1] != want {
				t.Errorf("Sample(%x, %d, 3, %d) = %d; want %d in the middle", c.seed, c.i-1, below, l, want)
			}
		}
		if over == 0 || under == 0 {
			t.Errorf("the try %d is too great for %d bounds, and not for %d", c.try, over, under)
		}
	}
}

// For these bounds the first try is 2^64 - r, which is the first that is too great, or 2^64 - r - 1, the last that is not.
func TestNumberNextToTheLimit(t *testing.T) {
	c := rareTries()[3]
	for _, below := range []uint64{503560317, 520708409, 904796061, 1550913013, 1562125227, 1626760343, 3779852833, 3964706363} {
		if c.try != -rest(below) {
			t.Fatalf("%d is not the first try that is too great for %d", c.try, below)
		}
		want := modelTry(c.seed, c.i, 1).Uint64() % below
		if n := number(t, c.seed, c.i, below); n != want || n == 0 {
			t.Errorf("Number(%x, %d, %d) = %d; want %d", c.seed, c.i, below, n, want)
		}
	}
	for _, below := range []uint64{2428546433, 3797898163} {
		if c.try != -rest(below)-1 {
			t.Fatalf("%d is not the last try that is small enough for %d", c.try, below)
		}
		if n := number(t, c.seed, c.i, below); n != below-1 {
			t.Errorf("Number(%x, %d, %d) = %d; want %d", c.seed, c.i, below, n, below-1)
		}
	}
}

// P6.1: Sample

func TestSample(t *testing.T) {
	for _, c := range []struct {
		seed  [32]byte
		from  uint32
		below uint64
		want  []uint64
	}{
		{[32]byte{}, 0, 100, []uint64{8, 44, 23, 38, 50, 22}},
		{[32]byte{}, lastDraw - 3, 1000, []uint64{539, 883, 101, 75}},
		{rising(), 0, 100, []uint64{21, 78, 79, 17, 9, 96}},
		{rising(), lastDraw - 3, 1000, []uint64{937, 428, 855, 582}},
		{rising(), 2, 1, []uint64{0, 0, 0}},
	} {
		if l := sample(t, c.seed, c.from, len(c.want), c.below); !slices.Equal(l, c.want) {
			t.Errorf("Sample(%x, %d, %d, %d) = %d; want %d", c.seed, c.from, len(c.want), c.below, l, c.want)
		}
	}
}

// The example of the chapter.
func TestSampleBelowOne(t *testing.T) {
	for _, seed := range seeds() {
		for _, from := range []uint32{0, 1, lastDraw - 2} {
			if l := sample(t, seed, from, 3, 1); !slices.Equal(l, []uint64{0, 0, 0}) {
				t.Errorf("Sample(%x, %d, 3, 1) = %d", seed, from, l)
			}
		}
	}
}

// sampleCase is the arguments of Sample, but for the seed.
type sampleCase struct {
	from  uint32
	many  int
	below uint64
}

func TestSampleOfEveryKind(t *testing.T) {
	cases := []sampleCase{
		{0, 4095, 10}, {0, 4096, 1 << 32}, {1, 4096, 1<<32 - 1}, {lastDraw - 4095, 4096, 3}, {lastDraw - 4094, 4095, 7},
	}
	for _, below := range bounds() {
		cases = append(cases, sampleCase{0, 0, below}, sampleCase{0, 1, below}, sampleCase{0, 9, below}, sampleCase{5, 2, below},
			sampleCase{lastDraw, 0, below}, sampleCase{lastDraw, 1, below}, sampleCase{lastDraw - 1, 2, below})
	}
	for _, seed := range seeds() {
		for _, c := range cases {
			want, _ := modelSample(seed, c.from, c.many, c.below)
			if l := sample(t, seed, c.from, c.many, c.below); len(l) != c.many || !slices.Equal(l, want) {
				t.Errorf("Sample(%x, %d, %d, %d) is wrong", seed, c.from, c.many, c.below)
			}
		}
	}
}

func TestSampleIsWhatNumberReturns(t *testing.T) {
	for _, seed := range seeds() {
		for _, c := range []sampleCase{{0, 200, 64}, {77, 300, 1<<32 - 1}, {lastDraw - 99, 100, 1 << 32}} {
			for j, n := range sample(t, seed, c.from, c.many, c.below) {
				if want := number(t, seed, c.from+uint32(j), c.below); n != want {
					t.Errorf("number %d of Sample(%x, %d, %d, %d) is %d; want %d", j, seed, c.from, c.many, c.below, n, want)
				}
			}
		}
	}
}

func TestSampleRejects(t *testing.T) {
	cases := []sampleCase{
		{0, -1, 5}, {7, -1, 5}, {lastDraw, -1, 5}, {7, -7, 5}, {0, math.MinInt, 5}, {lastDraw, math.MinInt, 5},
		{lastDraw, 2, 5}, {lastDraw - 1, 3, 5}, {lastDraw - 4095, 4097, 5}, {lastDraw - 4094, 4096, 5}, {1 << 31, 1<<31 + 1, 5},
		{0, 1<<32 + 1, 5}, {1, 1 << 32, 5}, {lastDraw, 1 << 32, 5}, {0, math.MaxInt, 5}, {lastDraw, math.MaxInt, 5},
	}
	for _, below := range wrongBounds {
		cases = append(cases, sampleCase{0, 0, below}, sampleCase{0, 1, below}, sampleCase{lastDraw, 1, below})
	}
	for _, c := range cases {
		if l, e := draw.Sample(rising(), c.from, c.many, c.below); e != api.ErrArg || len(l) != 0 {
			t.Errorf("Sample(%d, %d, %d) = %d numbers, %d; want none, ErrArg", c.from, c.many, c.below, len(l), int(e))
		}
	}
}

func TestSampleKeepsToMaxDraws(t *testing.T) {
	for _, c := range []sampleCase{
		{0, 4097, 5}, {0, 4098, 5}, {9, 5000, 1}, {lastDraw - 4096, 4097, 5}, {1 << 31, 1 << 31, 5}, {0, 1 << 31, 1 << 32},
		{0, 1 << 32, 5}, {1, 1<<32 - 1, 5},
	} {
		if l, e := draw.Sample(rising(), c.from, c.many, c.below); e != api.ErrMany || len(l) != 0 {
			t.Errorf("Sample(%d, %d, %d) = %d numbers, %d; want none, ErrMany", c.from, c.many, c.below, len(l), int(e))
		}
	}
}

// P6.2

func TestLot(t *testing.T) {
	ones := [32]byte(bytes.Repeat([]byte{255}, 32))
	for _, c := range []struct {
		seed [32]byte
		want []int
	}{
		{[32]byte{}, nil},
		{rising(), nil},
		{[32]byte{}, []int{0}},
		{rising(), []int{0}},
		{ones, []int{0}},
		{[32]byte{}, []int{3, 4, 1, 2, 0}},
		{rising(), []int{3, 0, 2, 1, 4}},
		{ones, []int{3, 0, 4, 1, 2}},
		{[32]byte{}, []int{8, 7, 1, 5, 0, 2, 4, 6, 9, 3}},
		{rising(), []int{8, 0, 7, 1, 5, 4, 9, 2, 6, 3}},
		{ones, []int{9, 0, 7, 1, 2, 3, 6, 4, 5, 8}},
		{[32]byte{}, []int{55, 62, 1, 5, 21, 48, 36, 50, 52, 12, 46, 23, 41, 26, 27, 59, 32, 40, 35, 34, 56, 18, 54, 38, 13, 20, 25, 61, 51, 3, 24, 10,
			31, 44, 47, 60, 4, 63, 29, 9, 42, 30, 11, 49, 22, 2, 19, 17, 45, 39, 6, 16, 43, 28, 7, 37, 15, 14, 8, 53, 0, 58, 33, 57}},
	} {
		if l := lot(t, c.seed, len(c.want)); !slices.Equal(l, c.want) {
			t.Errorf("Lot(%x, %d) = %d; want %d", c.seed, len(c.want), l, c.want)
		}
	}
}

func TestLotOfEveryLength(t *testing.T) {
	for _, seed := range seeds() {
		for n := range 65 {
			want, _ := modelLot(seed, n)
			if l := lot(t, seed, n); !slices.Equal(l, want) {
				t.Errorf("Lot(%x, %d) = %d; want %d", seed, n, l, want)
			}
		}
	}
}

func TestLotRejects(t *testing.T) {
	for _, seed := range seeds() {
		for _, n := range []int{-1, -2, -64, 65, 66, 128, 4096, 1 << 32, 1<<32 + 5, math.MinInt, math.MaxInt} {
			if l, e := draw.Lot(seed, n); e != api.ErrArg || len(l) != 0 {
				t.Errorf("Lot(%x, %d) = %d, %d; want none, ErrArg", seed, n, l, int(e))
			}
		}
	}
}

// P6.3

func TestMix(t *testing.T) {
	for _, c := range []struct {
		l    [][]byte
		want string
	}{
		{nil, "e3b0c44298fc1c149afbf4c8996fb92427ae41e4649b934ca495991b7852b855"},
		{[][]byte{{}}, "96a296d224f285c67bee93c30f8a309157f0daa35dc5b87e410b78630a09cfc7"},
		{[][]byte{{}, {}}, "df3f619804a92fdb4057192dc43dd748ea778adc52bc498ce80524c014b81119"},
		{[][]byte{{5, 6}, {}}, "45f58eed9291042ceebeb1b75e817d2df6ea6698263e1e48ea728d5923432313"},
		{[][]byte{[]byte("a"), []byte("bc")}, "88dd643ec6bb58bcfe970d0e146b523a6cd0e821fc09a0d0d767dc3c86b20dca"},
		{[][]byte{[]byte("ab"), []byte("c")}, "2fd9ed9427a9ce1308ac7d3631dead79a87d5e1ac34ee69b67cf3bf9f5524da6"},
	} {
		if d := mix(t, c.l); hex.EncodeToString(d[:]) != c.want {
			t.Errorf("Mix(%q) = %x; want %s", c.l, d, c.want)
		}
	}
}

// filled returns n bytes, none of which is 0 and which differ from their neighbours.
func filled(n int) []byte {
	b := make([]byte, n)
	for i := range b {
		b[i] = byte(1 + i%251)
	}
	return b
}

// lists returns lists of fields whose concatenation has size bytes, which are at least 4.
func lists(size int) [][][]byte {
	return [][][]byte{
		{filled(size - 2)},
		{{}, filled(size - 4)},
		{filled(size - 4), nil},
		{filled((size - 4) / 2), filled(size - 4 - (size-4)/2)},
		append(make([][]byte, size/2-1), filled(size%2)),
	}
}

func concatenated(l [][]byte) int {
	size := 0
	for _, field := range l {
		size += 2 + len(field)
	}
	return size
}

func TestMixOfEverySize(t *testing.T) {
	for _, size := range []int{4, 5, 6, 7, 54, 55, 56, 57, 63, 64, 65, 255, 256, 257, 258, 259, 4096, 8190, 8191, 8192} {
		for _, l := range lists(size) {
			want, _ := modelMix(l)
			if d := mix(t, l); d != want {
				t.Errorf("Mix of %d fields, %d bytes in all, = %x; want %x", len(l), concatenated(l), d, want)
			}
		}
	}
}

func TestMixKeepsToMaxInput(t *testing.T) {
	l := [][][]byte{
		{filled(65535)}, {filled(65536)}, {filled(65537)}, {{}, filled(65536), {}}, {filled(8191)},
		{filled(16381)}, {filled(16382)}, {filled(16383)}, {filled(1 << 20)}, make([][]byte, 4097), make([][]byte, 8193), make([][]byte, 1<<17),
	}
	for _, size := range []int{8193, 8194, 8195, 16384, 16385} {
		l = append(l, lists(size)...)
	}
	for _, fields := range l {
		if d, e := draw.Mix(fields); e != api.ErrMany || d != [32]byte{} {
			t.Errorf("Mix of %d fields, %d bytes in all, = %x, %d; want zeros, ErrMany", len(fields), concatenated(fields), d, int(e))
		}
	}
	for _, fields := range [][][]byte{make([][]byte, 4096), {filled(8190)}, slices.Repeat([][]byte{{9, 9}}, 2048)} {
		if want, _ := modelMix(fields); mix(t, fields) != want {
			t.Errorf("Mix of %d fields, 8192 bytes in all, is wrong", len(fields))
		}
	}
}

// Different lists of fields have different digests, even where the bytes in them are the same.
func TestMixTellsListsApart(t *testing.T) {
	seen := map[[32]byte][][]byte{}
	for _, l := range [][][]byte{
		nil, {{}}, {{}, {}}, {{0}}, {{0, 0}}, {{}, {0}}, {{0}, {}}, {{1}, {2}}, {{2}, {1}}, {{1, 2}}, {{1, 2}, {}}, {{}, {1, 2}}, {{0, 1, 2}},
		{{1}, {0, 1, 2}}, {{1, 0, 1, 2}}, {{0, 1, 1}, {2}},
	} {
		d := mix(t, l)
		if other, ok := seen[d]; ok {
			t.Errorf("Mix(%v) = Mix(%v)", l, other)
		}
		seen[d] = l
	}
}

func TestMixMakesASeed(t *testing.T) {
	seed := mix(t, [][]byte{[]byte("one"), []byte("two")})
	if seed != sha256.Sum256([]byte("\x00\x03one\x00\x03two")) {
		t.Errorf("the seed is %x", seed)
	}
	want, _ := modelLot(seed, 10)
	if l := lot(t, seed, 10); !slices.Equal(l, want) {
		t.Errorf("the lot of a mixed seed is %d; want %d", l, want)
	}
}

// P6.4

func TestLotIsAPermutation(t *testing.T) {
	for _, seed := range seeds() {
		for n := range 65 {
			l := slices.Sorted(slices.Values(lot(t, seed, n)))
			if len(l) != n {
				t.Fatalf("Lot(%x, %d) has %d elements", seed, n, len(l))
			}
			for i, x := range l {
				if x != i {
					t.Fatalf("Lot(%x, %d) is no permutation", seed, n)
				}
			}
		}
	}
}

// A lot of few elements is each of their permutations for some seed, about equally often.
func TestLotIsEveryPermutation(t *testing.T) {
	seen := map[[4]int]int{}
	for x := range 2400 {
		seen[[4]int(lot(t, [32]byte{3: byte(x / 256), 7: byte(x)}, 4))]++
	}
	for l, many := range seen {
		if many < 60 || many > 140 {
			t.Errorf("the lot of %d of 2400 seeds is %d", many, l)
		}
	}
	if len(seen) != 24 {
		t.Errorf("%d lots of 4 elements; want 24", len(seen))
	}
}

func TestSampleBeginsWithShorterOnes(t *testing.T) {
	for _, seed := range seeds() {
		for _, c := range []sampleCase{{0, 40, 2}, {0, 40, 1 << 32}, {1000, 40, 52}, {lastDraw - 39, 40, 1<<32 - 1}} {
			whole := sample(t, seed, c.from, c.many, c.below)
			for many := range c.many + 1 {
				if l := sample(t, seed, c.from, many, c.below); !slices.Equal(l, whole[:many]) {
					t.Errorf("Sample(%x, %d, %d, %d) = %d; that of %d numbers begins with %d", seed, c.from, many, c.below, l, c.many, whole[:many])
				}
			}
		}
	}
}
