// Package fair draws numbers below bounds from tries, and lots from such numbers. It leaves open where tries and numbers come from, so that its tests can hand in those that no known seed gives: tries that are all too great, for example.
package fair

import (
	"iter"
	"math"

	"suffrage/api"
)

const maxTries = 16 // tries for one number

// Request asks for the number that is drawn for I, below Below, which must not be 0.
type Request struct {
	I     uint32
	Below uint64
}

// Numbers returns the numbers that are asked for, in order; try returns try number k for a draw number i. It returns ErrNone if none of the tries for one of them is small enough.
func Numbers(requests []Request, try func(i, k uint32) uint64) ([]uint64, api.Errno) {
	var l []uint64
next:
	for _, r := range requests {
		last := lastSmall(r.Below)
		for value := range tries(r.I, try) {
			if value <= last {
				l = append(l, value%r.Below)
				continue next
			}
		}
		return nil, api.ErrNone
	}
	return l, api.OK
}

// Lot returns the lot of n elements, which must not be negative; draw returns the numbers that are asked for, or the error with which Lot ends.
func Lot(n int, draw func(requests []Request) ([]uint64, api.Errno)) ([]int, api.Errno) {
	requests := lotRequests(n)
	numbers, e := draw(requests)
	if e != api.OK {
		return nil, e
	}
	l := make([]int, n)
	for i := range l {
		l[i] = i
	}
	for j, r := range requests {
		i, k := r.I, numbers[j]
		l[i], l[k] = l[k], l[i]
	}
	return l, api.OK
}

// tries yields the tries for draw number i in order.
func tries(i uint32, try func(i, k uint32) uint64) iter.Seq[uint64] {
	return func(yield func(uint64) bool) {
		for k := range uint32(maxTries) {
			if !yield(try(i, k)) {
				return
			}
		}
	}
}

// lastSmall returns the greatest try that is small enough for a bound. The bound divides the number of tries up to it, so that they give every number below the bound equally often.
func lastSmall(below uint64) uint64 {
	rest := -below % below // what 2^64 leaves too, because -below wraps round to 2^64 - below
	return math.MaxUint64 - rest
}

// lotRequests asks for the number that each position but 0 is exchanged with, the last position first.
func lotRequests(n int) []Request {
	var requests []Request
	for i := n - 1; i >= 1; i-- {
		requests = append(requests, Request{I: uint32(i), Below: uint64(i) + 1})
	}
	return requests
}
