package gregory

import (
	"slices"

	"suffrage/api"
	"suffrage/profile"
	quotas "suffrage/quota"
	"suffrage/rule"
)

// state is a count that is under way. Its values are fixed-point numbers.
type state struct {
	rule.Rounds
	seats  int // that are left
	votes  int // the value of all ballots with marks, at first
	quota  int
	rows   []row
	status []status // of each candidate
}

// row is a row of the profile in a count.
type row struct {
	api.Row
	value int // of each of its ballots
}

// newState returns the state before the first round. The arguments are valid.
func newState(p api.Profile, seats int, lot []int) *state {
	votes, _ := profile.Marked(p)
	quota, _ := Quota(p, seats)
	s := &state{Rounds: rule.NewRounds(lot), seats: seats, votes: votes * api.Unit, quota: quota * api.Unit}
	for _, r := range p.Rows {
		s.rows = append(s.rows, row{r, api.Unit})
	}
	for range p.Cands {
		s.status = append(s.status, hopeful{})
	}
	return s
}

// count counts a round.
func (s *state) count() {
	had := s.totals()
	round := rule.RoundOf(quotas.Ratio, had, lost(s.votes, had))
	most := s.Most(had)
	switch {
	case s.Remaining() <= s.seats:
		s.ElectAll(round, had)
		s.seats = 0
	case had[most[0]] >= s.quota:
		s.elect(round, most, had[most[0]])
	default:
		s.status[s.Eliminate(round, s.Least(had))] = decided{0}
	}
}

// totals returns what each candidate has.
func (s *state) totals() []int {
	had := make([]int, len(s.status))
	for _, r := range s.rows {
		if c, ok := s.candidate(r); ok {
			had[c] += r.Many * r.value
		}
	}
	for c, x := range s.status {
		had[c] = x.has(had[c])
	}
	return had
}

// candidate returns the candidate that a row counts for, or false if it counts for nobody.
func (s *state) candidate(r row) (int, bool) {
	at := slices.IndexFunc(r.Marks, func(c int) bool { return s.status[c].takes() })
	if at < 0 {
		return 0, false
	}
	return r.Marks[at], true
}

// elect ends the round with the election of one of among, who have n each; the rows that count for it pass on what it has beyond the quota.
func (s *state) elect(round api.Round, among []int, n int) {
	winner := s.Elect(round, among)
	for i, r := range s.rows {
		if c, ok := s.candidate(r); ok && c == winner {
			s.rows[i].value, _ = Pass(r.value, n, s.quota)
		}
	}
	s.status[winner] = decided{s.quota}
	s.seats--
}

// lost returns what the candidates do not have of all votes, or 0 if they have more.
func lost(votes int, had []int) int {
	for _, n := range had {
		votes -= n
	}
	return max(votes, 0)
}
