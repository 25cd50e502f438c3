package runoff

import (
	"suffrage/api"
	"suffrage/rule"
)

// state is a count that is under way: what it has in common with those of other rules, and its ballots.
type state struct {
	rule.Rounds
	ballots api.Profile
}

// run counts round by round until a candidate is elected.
func (s *state) run() api.Outcome {
	for {
		had, lost, _ := Firsts(s.ballots, s.Left()) // its errors are those of profiles that are not valid
		round := rule.Round(had, lost)
		if winner, ok := s.Winner(had); ok {
			s.Elect(round, []int{winner})
			return s.Outcome()
		}
		s.Eliminate(round, s.Least(had))
	}
}
