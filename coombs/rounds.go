package coombs

import (
	"suffrage/api"
	"suffrage/rule"
	"suffrage/runoff"
)

// decider makes the decisions of a round.
type decider interface {
	// Winner returns who is elected if the candidates have these ballots, or false if nobody is.
	Winner(had []int) (winner int, ok bool)
	// Losers returns the candidates of whom one is eliminated if nobody is elected, in ascending order.
	Losers() []int
}

// lastPlaces decides by the Coombs rule: who is elected is decided as in any count in rounds, and who is eliminated by the ballots against the candidates.
type lastPlaces struct {
	*rule.Rounds
	ballots api.Profile
}

// Losers implements decider.
func (l lastPlaces) Losers() []int {
	against, _ := Lasts(l.ballots, l.Left()) // its errors are those of profiles that are not valid
	return l.Most(against)
}

// run counts a valid profile of rankings round by round, as it is decided, until a candidate is elected.
func run(p api.Profile, rounds *rule.Rounds, by decider) api.Outcome {
	for {
		had, lost, _ := runoff.Firsts(p, rounds.Left()) // its errors are those of profiles that are not valid
		round := rule.Round(had, lost)
		if winner, ok := by.Winner(had); ok {
			rounds.Elect(round, []int{winner})
			return rounds.Outcome()
		}
		rounds.Eliminate(round, by.Losers())
	}
}
