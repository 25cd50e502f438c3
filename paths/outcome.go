package paths

import (
	"suffrage/api"
	"suffrage/rule"
)

// notBehind returns, for each candidate, the number of other candidates that it is not behind, by the strengths.
func notBehind(strengths api.Pairs, cands int) []int {
	had := make([]int, cands)
	for x := range had {
		for y := range had {
			if x != y && strengths[x][y] >= strengths[y][x] {
				had[x]++
			}
		}
	}
	return had
}

// outcome returns the outcome in which one of those is elected who are not behind any other candidate.
func outcome(had, lot []int) api.Outcome {
	var among []int
	for c, n := range had {
		if n == len(had)-1 {
			among = append(among, c)
		}
	}
	return rule.Elect(rule.Round(had, 0), among, lot)
}
