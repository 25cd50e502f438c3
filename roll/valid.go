package roll

import (
	"suffrage/api"
	"suffrage/contest"
)

func isVoter(v api.Voter) bool {
	return isName(v.Name) && isPrecinct(v.Precinct) && isState(v.State)
}

// isName asks package contest, which alone knows what a name is, about a contest in which nothing but the name can be wrong.
func isName(s string) bool {
	return contest.Check(api.Contest{Name: s, Cands: []string{"x"}, Seats: 1, Rule: api.RulePlurality}) == api.OK
}

func isPrecinct(precinct int) bool { return 0 <= precinct && precinct < api.MaxPrecincts }

func isState(state uint8) bool { return api.VoterFree <= state && state <= api.VoterStruck }
