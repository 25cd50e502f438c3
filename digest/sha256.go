package digest

import (
	"iter"
	"math/bits"
)

const (
	blockSize  = 64  // bytes of a block
	wordSize   = 4   // bytes of a word
	wordBlock  = 16  // words of a block
	lengthSize = 8   // bytes of the length of the input
	endMark    = 128 // the byte behind the input
)

// k are the constants of the 64 turns: the first 32 bits of the fractional parts of the cube roots of the first 64 primes.
var k = [64]uint32{
	0x428a2f98, 0x71374491, 0xb5c0fbcf, 0xe9b5dba5, 0x3956c25b, 0x59f111f1, 0x923f82a4, 0xab1c5ed5,
	0xd807aa98, 0x12835b01, 0x243185be, 0x550c7dc3, 0x72be5d74, 0x80deb1fe, 0x9bdc06a7, 0xc19bf174,
	0xe49b69c1, 0xefbe4786, 0x0fc19dc6, 0x240ca1cc, 0x2de92c6f, 0x4a7484aa, 0x5cb0a9dc, 0x76f988da,
	0x983e5152, 0xa831c66d, 0xb00327c8, 0xbf597fc7, 0xc6e00bf3, 0xd5a79147, 0x06ca6351, 0x14292967,
	0x27b70a85, 0x2e1b2138, 0x4d2c6dfc, 0x53380d13, 0x650a7354, 0x766a0abb, 0x81c2c92e, 0x92722c85,
	0xa2bfe8a1, 0xa81a664b, 0xc24b8b70, 0xc76c51a3, 0xd192e819, 0xd6990624, 0xf40e3585, 0x106aa070,
	0x19a4c116, 0x1e376c08, 0x2748774c, 0x34b0bcb5, 0x391c0cb3, 0x4ed8aa4a, 0x5b9cca4f, 0x682e6ff3,
	0x748f82ee, 0x78a5636f, 0x84c87814, 0x8cc70208, 0x90befffa, 0xa4506ceb, 0xbef9a3f7, 0xc67178f2,
}

// start returns the state before the first block: the first 32 bits of the fractional parts of the square roots of the first eight primes.
func start() [8]uint32 {
	return [8]uint32{
		0x6a09e667, 0xbb67ae85, 0x3c6ef372, 0xa54ff53a, 0x510e527f, 0x9b05688c, 0x1f83d9ab, 0x5be0cd19,
	}
}

// digest returns the digest of b, whatever its length.
func digest(b []byte) [32]byte {
	state := start()
	for block := range blocks(pad(b)) {
		state = compress(state, block)
	}
	var d [32]byte
	for i, word := range state {
		putInteger(d[wordSize*i:wordSize*(i+1)], uint64(word))
	}
	return d
}

// pad returns b with its padding, in new memory: a caller's slice must never be appended to, because that would write into its capacity.
func pad(b []byte) []byte {
	least := len(b) + 1 + lengthSize
	size := (least + blockSize - 1) / blockSize * blockSize
	out := make([]byte, size)
	copy(out, b)
	out[len(b)] = endMark
	putInteger(out[size-lengthSize:], 8*uint64(len(b)))
	return out
}

// blocks yields the whole blocks of b in order.
func blocks(b []byte) iter.Seq[[]byte] {
	return func(yield func([]byte) bool) {
		for rest := b; len(rest) >= blockSize; rest = rest[blockSize:] {
			if !yield(rest[:blockSize]) {
				return
			}
		}
	}
}

// compress returns state s after compressing block, which has blockSize bytes.
func compress(s [8]uint32, block []byte) [8]uint32 {
	v := s
	for t, word := range schedule(block) {
		v = turn(v, k[t]+word)
	}
	for i := range v {
		v[i] += s[i]
	}
	return v
}

// schedule returns the message schedule of block.
func schedule(block []byte) [64]uint32 {
	var w [64]uint32
	for t := range wordBlock {
		w[t] = takeWord(block[wordSize*t:])
	}
	for t := wordBlock; t < len(w); t++ {
		x, y := w[t-15], w[t-2]
		s0 := rotr(x, 7) ^ rotr(x, 18) ^ x>>3
		s1 := rotr(y, 17) ^ rotr(y, 19) ^ y>>10
		w[t] = w[t-16] + s0 + w[t-7] + s1
	}
	return w
}

// turn returns the words of state v after a turn whose constant and word of the schedule add up to n.
func turn(v [8]uint32, n uint32) [8]uint32 {
	a, b, c, d, e, f, g, h := v[0], v[1], v[2], v[3], v[4], v[5], v[6], v[7]
	x := h + (rotr(e, 6) ^ rotr(e, 11) ^ rotr(e, 25)) + ((e & f) ^ (^e & g)) + n
	y := (rotr(a, 2) ^ rotr(a, 13) ^ rotr(a, 22)) + ((a & b) ^ (a & c) ^ (b & c))
	return [8]uint32{x + y, a, b, c, d + x, e, f, g}
}

// rotr rotates x right by n bits.
func rotr(x uint32, n int) uint32 { return bits.RotateLeft32(x, -n) }

// takeWord returns the word at the start of b.
func takeWord(b []byte) uint32 {
	var word uint32
	for i := range wordSize {
		word = word<<8 | uint32(b[i])
	}
	return word
}

// putInteger fills b with n, the most significant byte first.
func putInteger(b []byte, n uint64) {
	for i := range b {
		b[i] = byte(n >> (8 * (len(b) - 1 - i)))
	}
}
