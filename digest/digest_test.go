package digest_test

import (
	"bytes"
	"crypto/sha256"
	"encoding/binary"
	"encoding/hex"
	"fmt"
	"math/rand"
	"slices"
	"strings"
	"testing"

	"suffrage/api"
	"suffrage/digest"
)

// edges are lengths at which the number of blocks changes, or next to them.
var edges = []int{0, 1, 54, 55, 56, 57, 62, 63, 64, 65, 118, 119, 120, 127, 128}

// filled returns n bytes, none of which is 0 and which differ from their neighbours.
func filled(n int) []byte {
	b := make([]byte, n)
	for i := range b {
		b[i] = byte(1 + i%251)
	}
	return b
}

// inputs returns inputs of n bytes that look like nothing else, like padding, and like a length.
func inputs(n int) [][]byte {
	random := make([]byte, n)
	rand.New(rand.NewSource(int64(n))).Read(random)
	l := [][]byte{filled(n), random}
	for _, x := range []byte{0, 1, 127, 128, 255} {
		l = append(l, bytes.Repeat([]byte{x}, n))
	}
	return l
}

// lengths returns the lengths of inputs that the tests go through: all up to a few blocks, and all of the last blocks.
func lengths() []int {
	var l []int
	for n := range 330 {
		l = append(l, n)
	}
	for n := api.MaxInput - 140; n <= api.MaxInput; n++ {
		l = append(l, n)
	}
	return append(l, 511, 512, 513, 1000, 4095, 4096, 4097)
}

// states returns states of all kinds: each with one bit, all zeros, all ones, the first state, and random ones.
func states() [][8]uint32 {
	l := [][8]uint32{{}, allOnes(), modelStart(), {1, 2, 3, 4, 5, 6, 7, 8}}
	random := rand.New(rand.NewSource(5))
	for i := range 8 {
		for _, x := range []uint32{1, 1 << 31, 1<<32 - 1, 1 << random.Intn(32)} {
			var s [8]uint32
			s[i] = x
			l = append(l, s)
		}
	}
	for range 20 {
		var s [8]uint32
		for i := range s {
			s[i] = random.Uint32()
		}
		l = append(l, s)
	}
	return l
}

func allOnes() (s [8]uint32) {
	for i := range s {
		s[i] = 1<<32 - 1
	}
	return s
}

// someBlocks returns blocks of 64 bytes of all kinds.
func someBlocks() [][]byte {
	l := inputs(64)
	random := rand.New(rand.NewSource(7))
	for i := range 64 {
		b := make([]byte, 64)
		b[i] = 1 << random.Intn(8)
		l = append(l, b)
	}
	return append(l, modelPad(nil), modelPad([]byte("abc")))
}

func unhex(t *testing.T, s string) []byte {
	t.Helper()
	b, err := hex.DecodeString(strings.ReplaceAll(s, " ", ""))
	if err != nil {
		t.Fatal(err)
	}
	return b
}

func pad(t *testing.T, b []byte) []byte {
	t.Helper()
	out, e := digest.Pad(b)
	if e != api.OK {
		t.Fatalf("Pad of %d bytes: error %d", len(b), int(e))
	}
	return out
}

func compress(t *testing.T, s [8]uint32, block []byte) [8]uint32 {
	t.Helper()
	out, e := digest.Compress(s, block)
	if e != api.OK {
		t.Fatalf("Compress of %d bytes: error %d", len(block), int(e))
	}
	return out
}

func sum(t *testing.T, b []byte) [32]byte {
	t.Helper()
	d, e := digest.Sum(b)
	if e != api.OK {
		t.Fatalf("Sum of %d bytes: error %d", len(b), int(e))
	}
	return d
}

func leaf(t *testing.T, b []byte) [32]byte {
	t.Helper()
	d, e := digest.Leaf(b)
	if e != api.OK {
		t.Fatalf("Leaf of %d bytes: error %d", len(b), int(e))
	}
	return d
}

// fold returns the states after 0, 1, 2 and so on of the blocks of b.
func fold(t *testing.T, b []byte) [][8]uint32 {
	t.Helper()
	if len(b)%64 != 0 {
		t.Fatalf("%d bytes are no whole blocks", len(b))
	}
	l := [][8]uint32{modelStart()}
	for i := 0; i < len(b); i += 64 {
		l = append(l, compress(t, l[len(l)-1], b[i:i+64]))
	}
	return l
}

// written returns the words of a state as bytes.
func written(s [8]uint32) (d [32]byte) {
	for i, x := range s {
		binary.BigEndian.PutUint32(d[4*i:], x)
	}
	return d
}

// P5.1: Pad

func TestPadSizes(t *testing.T) {
	for _, c := range []struct{ n, want int }{
		{0, 64}, {1, 64}, {54, 64}, {55, 64}, {56, 128}, {57, 128}, {62, 128}, {63, 128}, {64, 128}, {65, 128},
		{118, 128}, {119, 128}, {120, 192}, {127, 192}, {128, 192}, {183, 192}, {184, 256},
		{8183, 8192}, {8184, 8256}, {8190, 8256}, {8191, 8256}, {8192, 8256},
	} {
		if out := pad(t, filled(c.n)); len(out) != c.want {
			t.Errorf("%d bytes are padded to %d; want %d", c.n, len(out), c.want)
		}
	}
}

func TestPadWritesBytes(t *testing.T) {
	for _, c := range []struct {
		b      []byte
		middle int
		length []byte
	}{
		{nil, 55, []byte{0, 0, 0, 0, 0, 0, 0, 0}},
		{[]byte("abc"), 52, []byte{0, 0, 0, 0, 0, 0, 0, 24}},
		{filled(31), 24, []byte{0, 0, 0, 0, 0, 0, 0, 248}},
		{filled(32), 23, []byte{0, 0, 0, 0, 0, 0, 1, 0}},
		{filled(55), 0, []byte{0, 0, 0, 0, 0, 0, 1, 184}},
		{filled(56), 63, []byte{0, 0, 0, 0, 0, 0, 1, 192}},
		{filled(63), 56, []byte{0, 0, 0, 0, 0, 0, 1, 248}},
		{filled(64), 55, []byte{0, 0, 0, 0, 0, 0, 2, 0}},
		{filled(8191), 56, []byte{0, 0, 0, 0, 0, 0, 255, 248}},
		{filled(8192), 55, []byte{0, 0, 0, 0, 0, 1, 0, 0}},
	} {
		want := slices.Concat(c.b, []byte{128}, make([]byte, c.middle), c.length)
		if out := pad(t, c.b); !bytes.Equal(out, want) {
			t.Errorf("Pad of %d bytes ends with %v", len(c.b), out[len(c.b):])
		}
	}
}

func TestPadOfEveryLength(t *testing.T) {
	for _, n := range lengths() {
		for _, b := range inputs(n) {
			if out := pad(t, b); !bytes.Equal(out, modelPad(b)) {
				t.Errorf("Pad of %d bytes is %d bytes, which are wrong", n, len(out))
			}
		}
	}
}

func TestPadKeepsToMaxInput(t *testing.T) {
	for _, n := range []int{8190, 8191, 8192} {
		if b := filled(n); !bytes.Equal(pad(t, b), modelPad(b)) {
			t.Errorf("Pad of %d bytes is wrong", n)
		}
	}
	for _, n := range []int{8193, 8194, 8256, 16384, 1 << 20} {
		if out, e := digest.Pad(make([]byte, n)); e != api.ErrMany || len(out) != 0 {
			t.Errorf("Pad of %d bytes: %d bytes, %d; want none, ErrMany", n, len(out), int(e))
		}
	}
}

// The bytes behind the length of a slice are not part of it.
func TestPadIgnoresCapacity(t *testing.T) {
	whole := bytes.Repeat([]byte{7}, 9000)
	for _, n := range append([]int{8190, 8192}, edges...) {
		if out := pad(t, whole[:n]); !bytes.Equal(out, modelPad(bytes.Repeat([]byte{7}, n))) {
			t.Errorf("Pad of %d bytes with others behind them is wrong", n)
		}
	}
}

// P5.1: Compress

func TestCompress(t *testing.T) {
	for _, s := range states() {
		for _, block := range someBlocks() {
			got := compress(t, s, block)
			if want := libraryCompress(t, s, block); got != want {
				t.Errorf("Compress of %x into %x = %x; want %x", block, s, got, want)
			}
			if want := modelCompress(s, block); got != want {
				t.Errorf("Compress of %x into %x = %x; want %x as the model has it", block, s, got, want)
			}
		}
	}
}

// Every bit of the state and of the block counts.
func TestCompressOfEachBit(t *testing.T) {
	seen := map[[8]uint32]string{}
	check := func(s [8]uint32, block []byte) {
		got := compress(t, s, block)
		if got != libraryCompress(t, s, block) {
			t.Errorf("Compress of %x into %x = %x", block, s, got)
		}
		name := fmt.Sprintf("%x into %x", block, s)
		if other, ok := seen[got]; ok {
			t.Errorf("%s and %s give the same state", name, other)
		}
		seen[got] = name
	}
	for bit := range 8 * 64 {
		block := make([]byte, 64)
		block[bit/8] = 1 << (bit % 8)
		check(modelStart(), block)
	}
	for bit := range 8 * 32 {
		s := modelStart()
		s[bit/32] ^= 1 << (bit % 32)
		check(s, make([]byte, 64))
	}
}

// The state in which all the turns end is added to the state before them.
func TestCompressOfExtremes(t *testing.T) {
	zeros, ones := make([]byte, 64), bytes.Repeat([]byte{255}, 64)
	for _, c := range []struct {
		s     [8]uint32
		block []byte
		want  string
	}{
		{modelStart(), modelPad(nil), "e3b0c442 98fc1c14 9afbf4c8 996fb924 27ae41e4 649b934c a495991b 7852b855"},
		{modelStart(), zeros, "da5698be 17b9b469 62335799 779fbeca 8ce5d491 c0d26243 bafef9ea 1837a9d8"},
	} {
		if got := written(compress(t, c.s, c.block)); !bytes.Equal(got[:], unhex(t, c.want)) {
			t.Errorf("Compress of %x into %x = %x; want %s", c.block, c.s, got, c.want)
		}
	}
	for _, s := range [][8]uint32{{}, allOnes(), modelStart()} {
		for _, block := range [][]byte{zeros, ones} {
			if got := compress(t, s, block); got != modelCompress(s, block) || got != libraryCompress(t, s, block) {
				t.Errorf("Compress of %x into %x = %x", block, s, got)
			}
		}
	}
}

func TestCompressRejectsLengths(t *testing.T) {
	for n := range 200 {
		s, e := digest.Compress(modelStart(), filled(n))
		if n == 64 {
			if e != api.OK || s != modelCompress(modelStart(), filled(n)) {
				t.Errorf("Compress of 64 bytes = %x, %d", s, int(e))
			}
		} else if e != api.ErrArg || s != [8]uint32{} {
			t.Errorf("Compress of %d bytes = %x, %d; want zeros, ErrArg", n, s, int(e))
		}
	}
	for _, block := range [][]byte{nil, {}, filled(256), filled(8192), filled(8193), make([]byte, 1<<20)} {
		if s, e := digest.Compress(allOnes(), block); e != api.ErrArg || s != [8]uint32{} {
			t.Errorf("Compress of %d bytes = %x, %d; want zeros, ErrArg", len(block), s, int(e))
		}
	}
}

// What lies behind the length of a slice makes it neither a block nor part of one.
func TestCompressIgnoresCapacity(t *testing.T) {
	whole := filled(200)
	for _, n := range []int{0, 63, 65} {
		if s, e := digest.Compress(modelStart(), whole[:n]); e != api.ErrArg || s != [8]uint32{} {
			t.Errorf("Compress of %d of 200 bytes = %x, %d", n, s, int(e))
		}
	}
	if got := compress(t, modelStart(), whole[:64]); got != modelCompress(modelStart(), filled(64)) {
		t.Errorf("Compress of 64 of 200 bytes = %x", got)
	}
}

// P5.1: Sum

func TestSum(t *testing.T) {
	for _, c := range []struct{ b, want string }{
		{"", "e3b0c442 98fc1c14 9afbf4c8 996fb924 27ae41e4 649b934c a495991b 7852b855"},
		{"abc", "ba7816bf 8f01cfea 414140de 5dae2223 b00361a3 96177a9c b410ff61 f20015ad"},
		{"abcdbcdecdefdefgefghfghighijhijkijkljklmklmnlmnomnopnopq", "248d6a61 d20638b8 e5c02693 0c3e6039 a33ce459 64ff2167 f6ecedd4 19db06c1"},
	} {
		if d := sum(t, []byte(c.b)); !bytes.Equal(d[:], unhex(t, c.want)) {
			t.Errorf("Sum(%q) = %x; want %s", c.b, d, c.want)
		}
	}
}

func TestSumOfEveryLength(t *testing.T) {
	for _, n := range lengths() {
		for _, b := range inputs(n) {
			if d := sum(t, b); d != sha256.Sum256(b) {
				t.Errorf("Sum of %d bytes = %x; want %x", n, d, sha256.Sum256(b))
			}
		}
	}
	for _, n := range edges {
		if b := filled(n); sum(t, b) != modelSum(b) {
			t.Errorf("Sum of %d bytes is not the model's", n)
		}
	}
}

func TestSumKeepsToMaxInput(t *testing.T) {
	for _, n := range []int{8190, 8191, 8192} {
		if b := filled(n); sum(t, b) != sha256.Sum256(b) {
			t.Errorf("Sum of %d bytes is wrong", n)
		}
	}
	for _, n := range []int{8193, 8194, 8256, 16384, 1 << 20} {
		if d, e := digest.Sum(make([]byte, n)); e != api.ErrMany || d != [32]byte{} {
			t.Errorf("Sum of %d bytes = %x, %d; want zeros, ErrMany", n, d, int(e))
		}
	}
}

// P5.2

func TestLeaf(t *testing.T) {
	for _, c := range []struct {
		b    []byte
		want string
	}{
		{nil, "6e340b9c ffb37a98 9ca544e6 bb780a2c 78901d3f b3373876 8511a306 17afa01d"},
		{[]byte{0}, "96a296d2 24f285c6 7bee93c3 0f8a3091 57f0daa3 5dc5b87e 410b7863 0a09cfc7"},
	} {
		if d := leaf(t, c.b); !bytes.Equal(d[:], unhex(t, c.want)) {
			t.Errorf("Leaf(%v) = %x; want %s", c.b, d, c.want)
		}
	}
}

func TestLeafOfEveryLength(t *testing.T) {
	for _, n := range lengths() {
		if n == api.MaxInput {
			continue
		}
		for _, b := range inputs(n) {
			want := sha256.Sum256(slices.Concat([]byte{0}, b))
			if d := leaf(t, b); d != want {
				t.Errorf("Leaf of %d bytes = %x; want %x", n, d, want)
			}
			if sum(t, slices.Concat([]byte{0}, b)) != want {
				t.Errorf("Leaf of %d bytes is not Sum with a byte 0 in front", n)
			}
		}
	}
}

func TestLeafKeepsToMaxInput(t *testing.T) {
	for _, n := range []int{8189, 8190, 8191} {
		if b := filled(n); leaf(t, b) != sha256.Sum256(slices.Concat([]byte{0}, b)) {
			t.Errorf("Leaf of %d bytes is wrong", n)
		}
	}
	for _, n := range []int{8192, 8193, 8194, 16384, 1 << 20} {
		if d, e := digest.Leaf(make([]byte, n)); e != api.ErrMany || d != [32]byte{} {
			t.Errorf("Leaf of %d bytes = %x, %d; want zeros, ErrMany", n, d, int(e))
		}
	}
}

// someDigests returns digests of all kinds.
func someDigests() [][32]byte {
	l := [][32]byte{{}, [32]byte(bytes.Repeat([]byte{255}, 32)), [32]byte(bytes.Repeat([]byte{1}, 32))}
	for i := range 32 {
		var single [32]byte
		single[i] = 1
		l = append(l, single, sha256.Sum256(filled(i)))
	}
	return l
}

func TestNode(t *testing.T) {
	a, b := leaf(t, nil), leaf(t, []byte{0})
	if d := digest.Node(a, b); !bytes.Equal(d[:], unhex(t, "fac54203 e7cc696c f0dfcb42 c92a1d9d baf70ad9 e621f4bd 8d98662f 00e3c125")) {
		t.Errorf("Node of the leaves of nothing and of a byte 0 = %x", d)
	}
	for _, left := range someDigests() {
		for _, right := range someDigests() { // equal ones, and different ones in both orders
			want := sha256.Sum256(slices.Concat([]byte{1}, left[:], right[:]))
			if d := digest.Node(left, right); d != want {
				t.Errorf("Node(%x, %x) = %x; want %x", left, right, d, want)
			}
		}
	}
}

func TestNodeTellsLeftFromRight(t *testing.T) {
	seen := map[[32]byte]string{}
	for _, left := range someDigests() {
		for _, right := range someDigests() {
			d, name := digest.Node(left, right), fmt.Sprintf("Node(%x, %x)", left, right)
			if other, ok := seen[d]; ok {
				t.Errorf("%s and %s are the same", name, other)
			}
			seen[d] = name
		}
	}
}

// A leaf is no node, and neither of them is the digest of the bytes alone.
func TestLeafAndNodeDiffer(t *testing.T) {
	for _, left := range someDigests() {
		for _, right := range someDigests() {
			both := slices.Concat(left[:], right[:])
			of, l, n := sum(t, both), leaf(t, both), digest.Node(left, right)
			if of == l || of == n || l == n {
				t.Errorf("of %x: sum %x, leaf %x, node %x", both, of, l, n)
			}
		}
	}
}

// P5.3

// The rest of P5.3 is R2, which is tested for each call in rules_test.go.
func TestPadIsNewMemory(t *testing.T) {
	for _, n := range edges {
		roomy := append(make([]byte, 0, n+300), filled(n)...)
		out := pad(t, roomy)
		for i := range roomy[:cap(roomy)] {
			roomy[:cap(roomy)][i] ^= 255
		}
		if !bytes.Equal(out, modelPad(filled(n))) {
			t.Errorf("the padding of %d bytes changes with them", n)
		}
		roomy = append(make([]byte, 0, n+300), filled(n)...)
		out = pad(t, roomy)
		for i := range out[:cap(out)] {
			out[:cap(out)][i] ^= 255
		}
		if !bytes.Equal(roomy, filled(n)) || bytes.Count(roomy[n:cap(roomy)], []byte{0}) != cap(roomy)-n {
			t.Errorf("%d bytes, or what lies behind them, change with their padding", n)
		}
	}
}

// P5.4

// unpad returns the input that the document's words read out of a padded input.
func unpad(t *testing.T, b []byte) []byte {
	t.Helper()
	if len(b) < 64 || len(b)%64 != 0 {
		t.Fatalf("%d padded bytes", len(b))
	}
	n := binary.BigEndian.Uint64(b[len(b)-8:])
	if n%8 != 0 || n/8 > uint64(len(b)-9) {
		t.Fatalf("%d bits in %d padded bytes", n, len(b))
	}
	return b[:n/8]
}

func TestPaddedInputDeterminesInput(t *testing.T) {
	for _, n := range lengths() {
		for _, b := range inputs(n) {
			if !bytes.Equal(unpad(t, pad(t, b)), b) {
				t.Errorf("%d bytes do not come back from their padding", n)
			}
		}
	}
}

// rivals returns inputs that are easily padded alike: all short ones of the bytes that padding consists of, one byte at each end of zeros, and starts of paddings.
func rivals() [][]byte {
	level := [][]byte{nil}
	var all [][]byte
	for range 6 {
		all = append(all, level...)
		var longer [][]byte
		for _, b := range level {
			for _, x := range []byte{0, 8, 128} {
				longer = append(longer, append(bytes.Clone(b), x))
			}
		}
		level = longer
	}
	for n := 6; n < 200; n++ {
		for _, ends := range [][2]byte{{0, 0}, {128, 0}, {0, 128}, {128, 128}} {
			b := make([]byte, n)
			b[0], b[n-1] = ends[0], ends[1]
			all = append(all, b)
		}
	}
	for _, n := range edges {
		for size, padded := len(filled(n))+1, modelPad(filled(n)); size <= len(padded); size++ {
			all = append(all, padded[:size])
		}
	}
	return all
}

func TestDifferentInputsArePaddedDifferently(t *testing.T) {
	seen := map[string]string{}
	inputs := map[string]bool{}
	for _, b := range rivals() {
		inputs[string(b)] = true
	}
	for b := range inputs {
		padded := string(pad(t, []byte(b)))
		if other, ok := seen[padded]; ok {
			t.Errorf("%x and %x are padded alike", other, b)
		}
		seen[padded] = b
	}
	if len(inputs) < 1500 {
		t.Errorf("only %d inputs", len(inputs))
	}
}

func TestSumIsAFold(t *testing.T) {
	for _, n := range lengths() {
		b := filled(n)
		states := fold(t, pad(t, b))
		if d := sum(t, b); d != written(states[len(states)-1]) {
			t.Errorf("Sum of %d bytes = %x; the fold ends with %x", n, d, states[len(states)-1])
		}
	}
	for _, b := range someDigests() {
		states := fold(t, pad(t, slices.Concat([]byte{0}, b[:])))
		if d := leaf(t, b[:]); d != written(states[len(states)-1]) {
			t.Errorf("Leaf(%x) = %x; the fold ends with %x", b, d, states[len(states)-1])
		}
		states = fold(t, pad(t, slices.Concat([]byte{1}, b[:], b[:])))
		if d := digest.Node(b, b); d != written(states[len(states)-1]) {
			t.Errorf("Node(%x, same) = %x; the fold ends with %x", b, d, states[len(states)-1])
		}
	}
}

// Two inputs with a prefix of whole blocks in common: the same state follows it, and each digest follows from that state and the other blocks.
func TestCommonPrefixSharesStates(t *testing.T) {
	for whole := range 5 {
		prefix := filled(64 * whole)
		shared := fold(t, prefix)
		for _, n := range edges {
			for _, rest := range inputs(n) {
				b := slices.Concat(prefix, rest)
				padded := pad(t, b)
				states := fold(t, padded)
				if !slices.Equal(states[:whole+1], shared) {
					t.Errorf("%d whole blocks, then %d bytes: other states than those of the prefix", whole, n)
				}
				s := shared[whole]
				for at := 64 * whole; at < len(padded); at += 64 {
					s = compress(t, s, padded[at:at+64])
				}
				if sum(t, b) != written(s) {
					t.Errorf("%d whole blocks, then %d bytes: the digest does not follow from the state of the prefix", whole, n)
				}
			}
		}
	}
}
