package pairs

import (
	"suffrage/api"
	"suffrage/ballot"
)

// fill returns the matrix of the entries among cands candidates, and of 0 elsewhere.
func fill(cands int, entry func(x, y int) int) api.Pairs {
	var m api.Pairs
	for x := range cands {
		for y := range cands {
			m[x][y] = entry(x, y)
		}
	}
	return m
}

// preferring returns the number of ballots of p, which is valid, that prefer x to y.
func preferring(p api.Profile, x, y int) int {
	many := 0
	for _, row := range p.Rows {
		if ballot.Prefers(api.Ballot{Kind: p.Kind, Marks: row.Marks}, x, y) {
			many += row.Many
		}
	}
	return many
}

// within returns m with only the entries of different candidates, of cands that there are.
func within(m api.Pairs, cands int) api.Pairs {
	return fill(cands, func(x, y int) int {
		if x == y {
			return 0
		}
		return m[x][y]
	})
}

// fit reports whether so many ballots may prefer one candidate to another, and so many the other to the one.
func fit(n, other int) bool {
	// The sum of two numbers may overflow; the difference of two that are not negative cannot.
	return n >= 0 && other >= 0 && n <= api.MaxMany-other
}

func isIndex(x int) bool { return x >= 0 && x < api.MaxCands }

// isPermutation reports whether perm is a ranking of all candidates, as many as there are numbers in it.
func isPermutation(perm []int) bool {
	return ballot.Check(api.Ballot{Kind: api.KindRank, Marks: perm}, len(perm)) == api.OK
}
