package digest_test

import (
	"bytes"
	"crypto/sha256"
	"encoding/binary"
	"math/rand"
	"slices"
	"testing"

	"suffrage/api"
	"suffrage/digest"
)

// answer is all that a call returns, in one form for all calls.
type answer struct {
	padded []byte
	state  [8]uint32
	digest [32]byte
	e      api.Errno
}

func (a answer) equal(b answer) bool {
	return bytes.Equal(a.padded, b.padded) && a.state == b.state && a.digest == b.digest && a.e == b.e
}

func (a answer) twin() answer {
	a.padded = bytes.Clone(a.padded)
	return a
}

// whole returns the memory of b up to its capacity.
func whole(b []byte) []byte { return b[:cap(b)] }

// scribble overwrites the memory of b up to its capacity.
func scribble(b []byte) {
	for i := range whole(b) {
		whole(b)[i] ^= 0xa5
	}
}

// roomy returns the bytes with memory behind them, which has room for any padding.
func roomy(b ...byte) []byte {
	return append(append(make([]byte, 0, len(b)+150), b...), bytes.Repeat([]byte{0xee}, 150)...)[:len(b)]
}

// call is a call whose byte string is in b.
type call struct {
	name string
	b    []byte
	do   func(b []byte) answer
}

func padCall(b []byte) answer {
	out, e := digest.Pad(b)
	return answer{padded: out, e: e}
}

func compressCall(s [8]uint32) func([]byte) answer {
	return func(b []byte) answer {
		state, e := digest.Compress(s, b)
		return answer{state: state, e: e}
	}
}

func sumCall(b []byte) answer {
	d, e := digest.Sum(b)
	return answer{digest: d, e: e}
}

func leafCall(b []byte) answer {
	d, e := digest.Leaf(b)
	return answer{digest: d, e: e}
}

func nodeCall(left, right [32]byte) func([]byte) answer {
	return func([]byte) answer { return answer{digest: digest.Node(left, right)} }
}

// functions returns each of the package's functions of a byte string.
func functions() map[string]func([]byte) answer {
	return map[string]func([]byte) answer{
		"Pad": padCall, "Compress": compressCall(modelStart()), "Sum": sumCall, "Leaf": leafCall,
	}
}

// calls returns each of the package's calls, with arguments that have room behind them, right and wrong.
func calls() []call {
	l := []call{
		{"Compress of a block", roomy(filled(64)...), compressCall(modelStart())},
		{"Compress of zeros", roomy(make([]byte, 64)...), compressCall([8]uint32{})},
		{"Compress of nothing", roomy(), compressCall(modelStart())},
		{"Compress of a short block", roomy(filled(63)...), compressCall(modelStart())},
		{"Compress of a long block", roomy(filled(65)...), compressCall(allOnes())},
		{"Compress of two blocks", roomy(filled(128)...), compressCall(allOnes())},
		{"Node of different digests", nil, nodeCall(sha256.Sum256(nil), sha256.Sum256([]byte{1}))},
		{"Node of equal digests", nil, nodeCall(sha256.Sum256(nil), sha256.Sum256(nil))},
		{"Node of zeros", nil, nodeCall([32]byte{}, [32]byte{})},
		{"Leaf of a byte too many", roomy(filled(8192)...), leafCall},
	}
	for name, do := range map[string]func([]byte) answer{"Pad": padCall, "Sum": sumCall, "Leaf": leafCall} {
		l = append(l,
			call{name + " of nothing", roomy(), do},
			call{name + " of a byte", roomy(7), do},
			call{name + " of 55 bytes", roomy(filled(55)...), do},
			call{name + " of 56 bytes", roomy(filled(56)...), do},
			call{name + " of a block", roomy(filled(64)...), do},
			call{name + " of two blocks", roomy(filled(128)...), do},
			call{name + " of much", roomy(filled(8191)...), do},
			call{name + " of too much", roomy(filled(8193)...), do},
		)
	}
	return l
}

// R1

// Of the two errors, each call has only one, whatever else might be said of its argument.
func TestR1ErrorsInOrder(t *testing.T) {
	for n, want := range map[int]struct{ pad, compress, sum, leaf api.Errno }{
		0:     {api.OK, api.ErrArg, api.OK, api.OK},
		63:    {api.OK, api.ErrArg, api.OK, api.OK},
		64:    {api.OK, api.OK, api.OK, api.OK},
		65:    {api.OK, api.ErrArg, api.OK, api.OK},
		8191:  {api.OK, api.ErrArg, api.OK, api.OK},
		8192:  {api.OK, api.ErrArg, api.OK, api.ErrMany},
		8193:  {api.ErrMany, api.ErrArg, api.ErrMany, api.ErrMany},
		8256:  {api.ErrMany, api.ErrArg, api.ErrMany, api.ErrMany},
		16384: {api.ErrMany, api.ErrArg, api.ErrMany, api.ErrMany},
	} {
		b := filled(n)
		for name, e := range map[string]api.Errno{"Pad": want.pad, "Compress": want.compress, "Sum": want.sum, "Leaf": want.leaf} {
			if a := functions()[name](b); a.e != e {
				t.Errorf("%s of %d bytes: error %d; want %d", name, n, int(a.e), int(e))
			}
		}
	}
	if api.ErrArg != 2 || api.ErrMany != 4 {
		t.Errorf("ErrArg is %d, ErrMany is %d", int(api.ErrArg), int(api.ErrMany))
	}
}

func TestR1NothingBesideAnError(t *testing.T) {
	failed := 0
	for _, c := range calls() {
		a := c.do(c.b)
		if a.e == api.OK {
			continue
		}
		failed++
		if !a.equal(answer{e: a.e}) {
			t.Errorf("%s: %v beside an error", c.name, a)
		}
	}
	if failed != 8 {
		t.Errorf("%d calls failed; want 8", failed)
	}
}

// R2

func TestR2ArgumentsStay(t *testing.T) {
	for _, c := range calls() {
		before := bytes.Clone(whole(c.b))
		c.do(c.b)
		if !bytes.Equal(whole(c.b), before) {
			t.Errorf("%s changes the memory of its argument", c.name)
		}
	}
}

// Arrays that are handed in stay as they are too.
func TestR2ArraysStay(t *testing.T) {
	s, block := modelStart(), filled(64)
	compress(t, s, block)
	if s != modelStart() {
		t.Errorf("Compress changes its state to %x", s)
	}
	left, right := sha256.Sum256([]byte("left")), sha256.Sum256([]byte("right"))
	digest.Node(left, right)
	if left != sha256.Sum256([]byte("left")) || right != sha256.Sum256([]byte("right")) {
		t.Errorf("Node changes its digests to %x and %x", left, right)
	}
}

func TestR2AnswersShareNothingWithArguments(t *testing.T) {
	for _, c := range calls() {
		a := c.do(c.b)
		want := a.twin()
		scribble(c.b)
		if !a.equal(want) {
			t.Errorf("%s: the answer changes with the argument", c.name)
		}
		before := bytes.Clone(whole(c.b))
		scribble(a.padded)
		if !bytes.Equal(whole(c.b), before) {
			t.Errorf("%s: the argument changes with the answer", c.name)
		}
	}
}

// A second answer depends neither on the first, nor on what became of it, nor on calls between.
func TestR2NothingIsKept(t *testing.T) {
	for _, c := range calls() {
		first := c.do(c.b)
		want := first.twin()
		scribble(first.padded)
		for _, d := range calls() {
			d.do(d.b)
		}
		again := c.do(c.b)
		if !again.equal(want) {
			t.Errorf("%s: the second answer is %v; want %v", c.name, again, want)
		}
		scribble(first.padded)
		if !again.equal(want) {
			t.Errorf("%s: the second answer shares memory with the first", c.name)
		}
	}
}

// The argument of one call may be the answer of another, or lie in the memory of a third one's argument.
func TestR2OneMemory(t *testing.T) {
	memory := filled(200)
	for at := range 64 {
		b := memory[at : at+64]
		if compress(t, modelStart(), b) != modelCompress(modelStart(), b) || sum(t, b) != sha256.Sum256(b) {
			t.Errorf("the digest of bytes %d to %d is wrong", at, at+64)
		}
		padded := pad(t, b)
		if sum(t, padded) != sha256.Sum256(modelPad(b)) || !bytes.Equal(padded, modelPad(b)) {
			t.Errorf("the digest of the padding of bytes %d to %d is wrong", at, at+64)
		}
	}
	if !bytes.Equal(memory, filled(200)) {
		t.Error("the memory changes")
	}
}

// R3

func TestR3NilAndEmptyAreEqual(t *testing.T) {
	for name, do := range functions() {
		a, b, c := do(nil), do([]byte{}), do(filled(100)[:0])
		if !a.equal(b) || !a.equal(c) {
			t.Errorf("%s: %v of nil, %v of an empty slice, %v of an empty part", name, a, b, c)
		}
		if ok := name != "Compress"; ok != (a.e == api.OK) {
			t.Errorf("%s of nil: error %d", name, int(a.e))
		}
	}
}

// R4

func TestR4MostSignificantFirst(t *testing.T) {
	if out := pad(t, make([]byte, 0x1234)); !bytes.Equal(out[len(out)-8:], []byte{0, 0, 0, 0, 0, 0, 0x91, 0xa0}) { // 8 times 0x1234
		t.Errorf("the length of 0x1234 bytes is written as %x", out[len(out)-8:])
	}
	s := fold(t, pad(t, []byte("abc")))[1]
	d := sum(t, []byte("abc"))
	for i, x := range s {
		if got := d[4*i : 4*i+4]; !bytes.Equal(got, []byte{byte(x >> 24), byte(x >> 16), byte(x >> 8), byte(x)}) {
			t.Errorf("word %x is written as %x", x, got)
		}
	}
	// A byte at the front of a word is worth 2^24: an input with it compresses as the model's words do.
	for i := range 64 {
		block := make([]byte, 64)
		binary.BigEndian.PutUint32(block[i/4*4:], 1<<(8*(3-i%4)))
		if block[i] != 1 || compress(t, [8]uint32{}, block) != modelCompress([8]uint32{}, block) {
			t.Errorf("byte %d of a block is not read as byte %d of its word", i, i%4)
		}
	}
}

// R5

// Blocks are compressed in their order, and so are words within a block.
func TestR5Order(t *testing.T) {
	a, b := bytes.Repeat([]byte{1}, 64), bytes.Repeat([]byte{2}, 64)
	ab, ba := slices.Concat(a, b), slices.Concat(b, a)
	if sum(t, ab) != sha256.Sum256(ab) || sum(t, ba) != sha256.Sum256(ba) || sum(t, ab) == sum(t, ba) {
		t.Errorf("two blocks in both orders: %x and %x", sum(t, ab), sum(t, ba))
	}
	s := compress(t, compress(t, compress(t, modelStart(), a), b), modelPad(ab)[128:])
	if sum(t, ab) != written(s) {
		t.Errorf("Sum of two blocks = %x; compressed in order they give %x", sum(t, ab), s)
	}
	for i := range 15 {
		block := make([]byte, 64)
		block[4*i] = 1
		other := make([]byte, 64)
		other[4*i+4] = 1
		if compress(t, modelStart(), block) == compress(t, modelStart(), other) {
			t.Errorf("words %d and %d may be exchanged", i, i+1)
		}
	}
}

// R6

// Sums of words wrap round, whatever is added up; the length in bits of the greatest input fits.
func TestR6NothingOverflows(t *testing.T) {
	ones := bytes.Repeat([]byte{255}, 64)
	for _, s := range [][8]uint32{allOnes(), {0: 1<<32 - 1}, {4: 1<<32 - 1}, {7: 1<<32 - 1}, {3: 1<<32 - 1, 7: 1<<32 - 1}} {
		s := s
		for range 20 { // each sum is the next one's state
			next := compress(t, s, ones)
			if next != modelCompress(s, ones) {
				t.Errorf("Compress of ones into %x = %x", s, next)
			}
			s = next
		}
	}
	if out := pad(t, make([]byte, api.MaxInput)); binary.BigEndian.Uint64(out[len(out)-8:]) != 8*api.MaxInput {
		t.Errorf("the length of MaxInput bytes is written as %x", out[len(out)-8:])
	}
}

// All states, digests and bytes are valid: only lengths are not.
func TestR6ValuesAreValid(t *testing.T) {
	random := rand.New(rand.NewSource(11))
	for range 300 {
		var s [8]uint32
		for i := range s {
			s[i] = random.Uint32()
		}
		block := make([]byte, 64)
		random.Read(block)
		if got := compress(t, s, block); got != libraryCompress(t, s, block) {
			t.Errorf("Compress of %x into %x = %x", block, s, got)
		}
		b := make([]byte, random.Intn(api.MaxInput))
		random.Read(b)
		if sum(t, b) != sha256.Sum256(b) || leaf(t, b) != sha256.Sum256(slices.Concat([]byte{0}, b)) || !bytes.Equal(pad(t, b), modelPad(b)) {
			t.Errorf("%d random bytes: a wrong answer", len(b))
		}
	}
}

// R7

// A panic or an endless call would fail the test by itself.
func TestR7AnyArguments(t *testing.T) {
	memory := make([]byte, 1<<24)
	lengths := []int{1 << 14, 1<<14 + 1, 1 << 16, 1<<16 + 64, 1 << 20, 1<<24 - 1, 1 << 24}
	for n := range 260 {
		lengths = append(lengths, n, api.MaxInput-130+n)
	}
	for _, n := range lengths {
		for _, b := range [][]byte{memory[:n], memory[:n:n], memory[len(memory)-n:]} {
			for _, do := range functions() {
				do(b)
			}
			digest.Compress(allOnes(), b)
		}
	}
}
