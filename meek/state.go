package meek

import (
	"slices"

	"suffrage/api"
	"suffrage/profile"
	quotas "suffrage/quota"
	"suffrage/rule"
)

// state is a count that is under way.
type state struct {
	rule.Rounds
	seats   int // of the contest, on which the quota depends
	free    int // seats that are left
	votes   int
	rows    []api.Row // of votes
	keeps   []int     // the keep value of each candidate
	elected []int     // who may keep less from turn to turn
}

// turn is a turn of a round. Its values are fixed-point numbers.
type turn struct {
	number int // from 1
	had    []int
	lost   int
	quota  int
}

// follow tells what follows a turn by one of the cases.
type follow int

const (
	nothing follow = iota // as the case does not apply
	nextTurn
	nextRound // or the end of the count
)

// newState returns the state before the first round. The arguments are valid.
func newState(p api.Profile, seats int, lot []int) *state {
	s := &state{Rounds: rule.NewRounds(lot), seats: seats, free: seats, keeps: slices.Repeat([]int{api.Unit}, p.Cands)}
	s.votes, _ = profile.Marked(p)
	for _, r := range p.Rows {
		if len(r.Marks) > 0 { // the rest of a blank ballot is not lost
			s.rows = append(s.rows, r)
		}
	}
	return s
}

// count counts a round.
func (s *state) count() {
	cases := [...]func(*state, turn) follow{(*state).electRest, (*state).electMost, (*state).eliminateLeast, (*state).keepLess}
turns:
	for number := 1; ; number++ {
		t := s.turn(number)
		for _, apply := range cases {
			switch apply(s, t) {
			case nextTurn:
				continue turns
			case nextRound:
				break turns
			}
		}
	}
}

// turn distributes all votes, in a turn of this number.
func (s *state) turn(number int) turn {
	t := turn{number: number, had: make([]int, len(s.keeps))}
	for _, r := range s.rows {
		parts, rest, _ := Parts(r.Marks, s.keeps)
		for c, part := range parts {
			t.had[c] += r.Many * part
		}
		t.lost += r.Many * rest
	}
	t.quota, _ = Quota(s.votes, t.lost, s.seats)
	return t
}

// round returns the round whose last turn it is.
func (t turn) round() api.Round { return rule.RoundOf(quotas.Ratio, t.had, t.lost) }

// electRest ends the count if there is a seat for each hopeful candidate.
func (s *state) electRest(t turn) follow {
	if s.Remaining() > s.free {
		return nothing
	}
	s.ElectAll(t.round(), t.had)
	s.free = 0
	return nextRound
}

// electMost elects a hopeful candidate if one has the quota.
func (s *state) electMost(t turn) follow {
	most := s.Most(t.had)
	if t.had[most[0]] < t.quota {
		return nothing
	}
	s.elected = append(s.elected, s.Elect(t.round(), most))
	s.free--
	return nextRound
}

// eliminateLeast eliminates a hopeful candidate if no further turn is to change what it has.
func (s *state) eliminateLeast(t turn) follow {
	if t.number < api.MaxTurns && len(s.above(t, t.quota+api.Close)) > 0 {
		return nothing
	}
	s.keeps[s.Eliminate(t.round(), s.Least(t.had))] = 0
	return nextRound
}

// keepLess lets the elected candidates above the quota keep less in the next turn.
func (s *state) keepLess(t turn) follow {
	for _, c := range s.above(t, t.quota) {
		s.keeps[c], _ = Keep(s.keeps[c], t.had[c], t.quota)
	}
	return nextTurn
}

// above returns the elected candidates that have more than n.
func (s *state) above(t turn, n int) []int {
	return slices.DeleteFunc(slices.Clone(s.elected), func(c int) bool { return t.had[c] <= n })
}
