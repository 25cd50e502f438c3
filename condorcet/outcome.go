package condorcet

import (
	"suffrage/api"
	"suffrage/pairs"
	"suffrage/ratio"
	"suffrage/rule"
)

// matrix returns the matrix of p, or the error of both rules.
func matrix(p api.Profile, seats int, lot []int) (api.Pairs, api.Errno) {
	if e := rule.Check(p, api.KindRank, seats, 1, lot); e != api.OK {
		return api.Pairs{}, e
	}
	return pairs.Of(p)
}

// doubleScores returns twice the Copeland score of each candidate, which is a whole number.
func doubleScores(m api.Pairs, cands int) []int {
	// Neither call has an error, as m is valid among the candidates.
	wins, _ := pairs.Wins(m, cands)
	losses, _ := pairs.Wins(pairs.Turn(m), cands)
	scores := make([]int, cands)
	for c := range scores {
		level := cands - 1 - wins[c] - losses[c]
		scores[c] = 2*wins[c] + level
	}
	return scores
}

// minimaxValues returns the minimax value of each candidate.
func minimaxValues(m api.Pairs, cands int) []int {
	values := make([]int, cands)
	for x := range values {
		for y := range cands {
			values[x] = max(values[x], pairs.Margin(m, y, x))
		}
	}
	return values
}

// outcome returns the outcome in which each candidate has one of the numbers, divided by the divisor, and one of those whose number is best is elected.
func outcome(numbers []int, divisor int64, best int, lot []int) api.Outcome {
	round := api.Round{Lost: ratio.Whole(0)}
	var among []int
	for c, n := range numbers {
		had, _ := ratio.Of(int64(n), divisor) // the only error is that of a divisor of 0
		round.Had = append(round.Had, had)
		if n == best {
			among = append(among, c)
		}
	}
	return rule.Elect(round, among, lot)
}
