package lists

import "cmp"

// divisors is a divisor method.
type divisors struct {
	divisor func(had int) int // of the votes of a party that has had so many seats
}

// quotient is a number of votes over a divisor, which is positive.
type quotient struct{ votes, divisor int }

// compare returns -1, 0 or 1 if q is less than, equal to or greater than r.
func (q quotient) compare(r quotient) int {
	return cmp.Compare(q.votes*r.divisor, r.votes*q.divisor)
}

// give gives the seats one at a time, each to a party with the greatest quotient.
func (d divisors) give(a *allocation, seats int) {
	had := make([]int, len(a.votes))
	next := func(party int) quotient { return quotient{a.votes[party], d.divisor(had[party])} }
	for range seats {
		had[a.seat(greatest(a.parties(), next, quotient.compare))]++
	}
}
