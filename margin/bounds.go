package margin

import (
	"suffrage/api"
	"suffrage/condorcet"
	"suffrage/pairs"
	"suffrage/profile"
)

// pairwiseBound returns the bound for the rules that elect a Condorcet winner. Fewer ballots leave it the winner, as each changes a pairwise margin by two at the most.
func pairwiseBound(p api.Profile) int {
	m, _ := pairs.Of(p) // no error, as the profile was counted
	winner, ok := condorcet.Winner(m, p.Cands)
	if !ok {
		return 1
	}
	least, _ := profile.Many(p)
	for x, y := range rivals([]int{winner}, upTo(p.Cands)) {
		least = min(least, pairs.Margin(m, x, y))
	}
	return half(least)
}

// runoffBound returns the bound for a runoff. Fewer ballots leave each decision of these rounds as it is.
func runoffBound(p api.Profile, lot []int, rounds []api.Round) int {
	all, _ := profile.Many(p)
	least := all
	left := upTo(p.Cands)
	for _, r := range rounds {
		had, counting := wholes(r.Had), all-whole(r.Lost)
		for x, y := range rivals(r.Out, left) {
			fewer := had[y] - had[x] + before(lot, y, x)
			majority := 1 + counting - 2*had[y] // for x it is no less
			least = min(least, half(fewer), half(majority))
		}
		if len(left) > 1 {
			for _, winner := range r.Elected {
				least = min(least, half(2*had[winner]-counting))
			}
		}
		left = without(left, r.Out)
	}
	return least
}
