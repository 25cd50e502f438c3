package lists

import (
	"suffrage/api"
	"suffrage/rule"
)

// allocation is an allocation of seats that is under way.
type allocation struct {
	votes   []int // of each party
	invalid int   // the number of ballots that are a vote for no party
	lot     []int
	elected []int // the party of each seat so far
	ties    []api.Tie
}

// count adds the ballots of the rows to the votes.
func (a *allocation) count(rows []api.Row) {
	for _, row := range rows {
		if len(row.Marks) == 1 {
			a.votes[row.Marks[0]] += row.Many
		} else {
			a.invalid += row.Many
		}
	}
}

// parties returns all parties, in ascending order.
func (a *allocation) parties() []int {
	l := make([]int, len(a.votes))
	for party := range l {
		l[party] = party
	}
	return l
}

// seat gives the next seat to the one of among that comes first in the lot, and returns it. Among is in ascending order, and not empty.
func (a *allocation) seat(among []int) int {
	party, ties := rule.First(among, a.lot)
	a.elected = append(a.elected, party)
	a.ties = append(a.ties, ties...)
	return party
}

// outcome returns the outcome after the last seat.
func (a *allocation) outcome() api.Outcome {
	return rule.Alone(rule.Round(a.votes, a.invalid), a.elected, a.ties)
}

// greatest returns those of the parties, of which there is at least one, whose value no other one exceeds, in their order.
func greatest[T any](parties []int, value func(party int) T, compare func(x, y T) int) []int {
	var best []int
	for _, party := range parties {
		switch {
		case len(best) == 0 || compare(value(party), value(best[0])) > 0:
			best = []int{party}
		case compare(value(party), value(best[0])) == 0:
			best = append(best, party)
		}
	}
	return best
}
