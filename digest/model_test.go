package digest_test

import (
	"crypto/sha256"
	"encoding"
	"encoding/binary"
	"math/big"
	"testing"
)

// The model follows the words of the document, with constants computed from the primes, and with sums in 64 bits that are cut to 32. It shares nothing with the package.

// primes returns the first n primes.
func primes(n int) []int64 {
	var l []int64
	for p := int64(2); len(l) < n; p++ {
		if big.NewInt(p).ProbablyPrime(0) { // certain for such small numbers
			l = append(l, p)
		}
	}
	return l
}

// fraction returns the first 32 bits of the fractional part of the root of p, of degree 2 or 3.
func fraction(p, degree int64) uint64 {
	power := new(big.Int).Lsh(big.NewInt(p), uint(32*degree)) // its root has 32 bits behind the point of the root of p
	root := new(big.Int)
	for bit := 40; bit >= 0; bit-- {
		root.SetBit(root, bit, 1)
		if new(big.Int).Exp(root, big.NewInt(degree), nil).Cmp(power) > 0 {
			root.SetBit(root, bit, 0)
		}
	}
	return root.Uint64() % (1 << 32)
}

func modelConstants() (k [64]uint64) {
	for t, p := range primes(64) {
		k[t] = fraction(p, 3)
	}
	return k
}

func modelStart() (s [8]uint32) {
	for i, p := range primes(8) {
		s[i] = uint32(fraction(p, 2))
	}
	return s
}

// modelK is computed once because many blocks need it.
var modelK = modelConstants()

func shr(x uint64, n int) uint64 { return x / (1 << n) }

func rotr(x uint64, n int) uint64 { return shr(x, n) + x%(1<<n)*(1<<(32-n)) }

func modelSchedule(block []byte) (w [64]uint64) {
	for t := range w {
		if t < 16 {
			w[t] = uint64(binary.BigEndian.Uint32(block[4*t:]))
			continue
		}
		s0 := rotr(w[t-15], 7) ^ rotr(w[t-15], 18) ^ shr(w[t-15], 3)
		s1 := rotr(w[t-2], 17) ^ rotr(w[t-2], 19) ^ shr(w[t-2], 10)
		w[t] = (w[t-16] + s0 + w[t-7] + s1) % (1 << 32)
	}
	return w
}

// modelCompress compresses a block of 64 bytes into state s.
func modelCompress(s [8]uint32, block []byte) [8]uint32 {
	var v [8]uint64
	for i := range s {
		v[i] = uint64(s[i])
	}
	a, b, c, d, e, f, g, h := v[0], v[1], v[2], v[3], v[4], v[5], v[6], v[7]
	w := modelSchedule(block)
	for t := range 64 {
		not := 1<<32 - 1 - e
		x := h + (rotr(e, 6) ^ rotr(e, 11) ^ rotr(e, 25)) + ((e & f) ^ (not & g)) + modelK[t] + w[t]
		y := (rotr(a, 2) ^ rotr(a, 13) ^ rotr(a, 22)) + ((a & b) ^ (a & c) ^ (b & c))
		h, g, f, e, d, c, b, a = g, f, e, (d+x)%(1<<32), c, b, a, (x+y)%(1<<32)
	}
	for i, x := range []uint64{a, b, c, d, e, f, g, h} {
		s[i] = uint32((v[i] + x) % (1 << 32))
	}
	return s
}

// modelPad appends byte by byte.
func modelPad(b []byte) []byte {
	out := append([]byte{}, b...)
	out = append(out, 128)
	for (len(out)+8)%64 != 0 {
		out = append(out, 0)
	}
	return binary.BigEndian.AppendUint64(out, uint64(len(b))*8)
}

func modelSum(b []byte) (d [32]byte) {
	s := modelStart()
	padded := modelPad(b)
	for i := 0; i < len(padded); i += 64 {
		s = modelCompress(s, padded[i:i+64])
	}
	for i, x := range s {
		binary.BigEndian.PutUint32(d[4*i:], x)
	}
	return d
}

// hashState is the head of the form in which the standard library writes the state of a SHA-256; its words follow.
const hashState = "sha\x03"

// libraryCompress lets the standard library compress a block into any state.
func libraryCompress(t *testing.T, s [8]uint32, block []byte) [8]uint32 {
	t.Helper()
	form := []byte(hashState)
	for _, x := range s {
		form = binary.BigEndian.AppendUint32(form, x)
	}
	form = append(form, make([]byte, 64+8)...) // no bytes that wait for the rest of their block, and a length of 0
	h := sha256.New()
	if err := h.(encoding.BinaryUnmarshaler).UnmarshalBinary(form); err != nil {
		t.Fatal(err)
	}
	h.Write(block)
	form, err := h.(encoding.BinaryMarshaler).MarshalBinary()
	if err != nil {
		t.Fatal(err)
	}
	for i := range s {
		s[i] = binary.BigEndian.Uint32(form[len(hashState)+4*i:])
	}
	return s
}

func TestModelIsSHA256(t *testing.T) {
	for n := range 300 {
		b := filled(n)
		if modelSum(b) != sha256.Sum256(b) {
			t.Errorf("the model's digest of %d bytes is wrong", n)
		}
	}
	for _, s := range states() {
		for _, block := range someBlocks() {
			if modelCompress(s, block) != libraryCompress(t, s, block) {
				t.Errorf("the model compresses %x into %x wrongly", block, s)
			}
		}
	}
}
