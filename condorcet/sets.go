package condorcet

import (
	"iter"
	"slices"

	"suffrage/api"
	"suffrage/pairs"
)

// smith returns the Smith set of m, which is valid; wins are those of the candidates.
func smith(m api.Pairs, wins []int) []int {
	var set []int
search:
	for inside, outside := range divisions(wins) {
		set = inside
		for _, x := range inside {
			for _, y := range outside {
				if !pairs.Beats(m, x, y) {
					continue search
				}
			}
		}
		break
	}
	return set
}

// divisions yields the sets of candidates that may be the Smith set, and with each set the candidates outside it. The smallest set comes first, and the set of all candidates last.
//
// Whoever is in a set whose members beat everybody outside has at least as many wins as there are candidates outside; and whoever is outside, beaten by all members, has fewer. So only the candidates with at least so many wins can be such a set.
func divisions(wins []int) iter.Seq2[[]int, []int] {
	return func(yield func(inside, outside []int) bool) {
		for least := slices.Max(wins); least >= 0; least-- {
			var inside, outside []int
			for c, n := range wins {
				if n >= least {
					inside = append(inside, c)
				} else {
					outside = append(outside, c)
				}
			}
			if !yield(inside, outside) {
				return
			}
		}
	}
}
