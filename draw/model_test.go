package draw_test

import (
	"crypto/sha256"
	"encoding/binary"
	"math/big"

	"suffrage/api"
)

// The model follows the words of the document, with the standard library's SHA-256 and its numbers of any length.

func twoTo64() *big.Int { return new(big.Int).Lsh(big.NewInt(1), 64) }

// modelTry returns try number k for a seed and draw number i.
func modelTry(seed [32]byte, i, k uint32) *big.Int {
	b := append([]byte{}, seed[:]...)
	b = binary.BigEndian.AppendUint32(b, i)
	b = binary.BigEndian.AppendUint32(b, k)
	d := sha256.Sum256(b)
	return new(big.Int).SetBytes(d[:8])
}

// modelTries returns how many tries a number takes, and the last of them; or 0 if none of the tries is small enough.
func modelTries(seed [32]byte, i uint32, below uint64) (int, *big.Int) {
	r := new(big.Int).Mod(twoTo64(), new(big.Int).SetUint64(below))
	limit := new(big.Int).Sub(twoTo64(), r)
	for k := range 16 {
		if try := modelTry(seed, i, uint32(k)); try.Cmp(limit) < 0 {
			return k + 1, try
		}
	}
	return 0, nil
}

func modelNumber(seed [32]byte, i uint32, below uint64) (uint64, api.Errno) {
	if below < 1 || below > 4294967296 {
		return 0, api.ErrArg
	}
	many, try := modelTries(seed, i, below)
	if many == 0 {
		return 0, api.ErrNone
	}
	return try.Mod(try, new(big.Int).SetUint64(below)).Uint64(), api.OK
}

func modelSample(seed [32]byte, from uint32, many int, below uint64) ([]uint64, api.Errno) {
	end := new(big.Int).Add(big.NewInt(int64(from)), big.NewInt(int64(many)))
	if many < 0 || end.Cmp(big.NewInt(4294967296)) > 0 || below < 1 || below > 4294967296 {
		return nil, api.ErrArg
	}
	if many > 4096 {
		return nil, api.ErrMany
	}
	var l []uint64
	for i := uint64(from); i < end.Uint64(); i++ {
		n, e := modelNumber(seed, uint32(i), below)
		if e != api.OK {
			return nil, e
		}
		l = append(l, n)
	}
	return l, api.OK
}

func modelLot(seed [32]byte, n int) ([]int, api.Errno) {
	if n < 0 || n > 64 {
		return nil, api.ErrArg
	}
	var l []int
	for i := range n {
		l = append(l, i)
	}
	for i := n - 1; i >= 1; i-- {
		k, e := modelNumber(seed, uint32(i), uint64(i+1))
		if e != api.OK {
			return nil, e
		}
		x := l[i]
		l[i] = l[k]
		l[k] = x
	}
	return l, api.OK
}

func modelMix(l [][]byte) ([32]byte, api.Errno) {
	h := sha256.New()
	size := 0
	for _, field := range l {
		if len(field) > 65535 {
			return [32]byte{}, api.ErrMany
		}
		h.Write([]byte{byte(len(field) / 256), byte(len(field) % 256)})
		h.Write(field)
		size += 2 + len(field)
	}
	if size > 8192 {
		return [32]byte{}, api.ErrMany
	}
	return [32]byte(h.Sum(nil)), api.OK
}
