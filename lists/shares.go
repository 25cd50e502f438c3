package lists

import (
	"cmp"
	"slices"
)

// giveByShares gives each party the whole seats of its share, and the seats that are left to the greatest remainders.
func giveByShares(a *allocation, seats int) {
	whole, remainders := shares(a.votes, seats)
	for party, n := range whole {
		for range n {
			a.seat([]int{party})
		}
	}
	var eligible []int
	for len(a.elected) < seats {
		if len(eligible) == 0 {
			eligible = a.parties()
		}
		party := a.seat(greatest(eligible, func(party int) int { return remainders[party] }, cmp.Compare))
		eligible = slices.DeleteFunc(eligible, func(other int) bool { return other == party })
	}
}

// shares returns the whole seats of each party's share, and what remains of it, times the number of votes.
func shares(votes []int, seats int) (whole, remainders []int) {
	all := 0
	for _, n := range votes {
		all += n
	}
	all = max(all, 1) // without votes all shares are 0, whatever they are divided by
	for _, n := range votes {
		whole = append(whole, n*seats/all)
		remainders = append(remainders, n*seats%all)
	}
	return whole, remainders
}
