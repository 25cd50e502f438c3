package draw

import (
	"suffrage/api"
	"suffrage/digest"
	"suffrage/fair"
	"suffrage/octet"
)

const (
	numberSize = 4 // bytes of a draw number, and of the number of a try
	trySize    = 8 // bytes of a digest that make a try
)

// source is a seed from which numbers are drawn.
type source [32]byte

// draw returns the numbers that are asked for, or ErrNone if one of them cannot be drawn.
func (s source) draw(requests []fair.Request) ([]uint64, api.Errno) {
	return fair.Numbers(requests, s.try)
}

// try returns try number k for draw number i. It leaves out errors: all that is encoded here fits.
func (s source) try(i, k uint32) uint64 {
	b, _ := octet.Put(s[:], uint64(i), numberSize)
	b, _ = octet.Put(b, uint64(k), numberSize)
	d, _ := digest.Sum(b)
	value, _, _ := octet.Take(d[:], 0, trySize)
	return value
}
