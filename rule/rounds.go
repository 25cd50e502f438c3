package rule

import (
	"slices"

	"suffrage/api"
)

// Rounds is the state of a count in rounds, in each of which candidates are elected or one is eliminated, who are left no more after it. The state of a rule's count embeds it.
type Rounds struct {
	lot     []int
	left    []int       // the candidates that are left, in ascending order
	outcome api.Outcome // of the rounds so far
}

// NewRounds returns the state before the first round, when all candidates of the lot are left.
func NewRounds(lot []int) Rounds {
	return Rounds{lot: lot, left: slices.Sorted(slices.Values(lot))}
}

// Candidates returns the candidates that are left, in ascending order.
func (r *Rounds) Candidates() []int { return slices.Clone(r.left) }

// Left tells for each candidate whether it is left.
func (r *Rounds) Left() []bool {
	left := make([]bool, len(r.lot))
	for _, c := range r.left {
		left[c] = true
	}
	return left
}

// Winner returns the candidate that a round elects in which the candidates have these ballots, of which those that are not left have none: one with more than half of them, or the only one that is left. It returns false if there is none.
func (r *Rounds) Winner(had []int) (int, bool) {
	all := 0
	for _, n := range had {
		all += n
	}
	for _, c := range r.left {
		if len(r.left) == 1 || had[c] > all-had[c] {
			return c, true
		}
	}
	return 0, false
}

// Least returns the candidates with the least number among those that are left, in ascending order.
func (r *Rounds) Least(numbers []int) []int {
	return r.foremost(numbers, func(n, other int) bool { return n < other })
}

// Most is like Least, but returns those with the greatest number.
func (r *Rounds) Most(numbers []int) []int {
	return r.foremost(numbers, func(n, other int) bool { return n > other })
}

// foremost returns the candidates, among those that are left, whose number no other one's is ahead of.
func (r *Rounds) foremost(numbers []int, ahead func(n, other int) bool) []int {
	best := numbers[r.left[0]]
	for _, c := range r.left {
		if ahead(numbers[c], best) {
			best = numbers[c]
		}
	}
	return slices.DeleteFunc(slices.Clone(r.left), func(c int) bool { return numbers[c] != best })
}

// Remaining returns how many candidates are left.
func (r *Rounds) Remaining() int { return len(r.left) }

// Eliminate ends the round with the elimination of the one of among that comes last in the lot, and returns it. Among is as for First.
func (r *Rounds) Eliminate(round api.Round, among []int) int {
	out, ties := Last(among, r.lot)
	r.remove(out, ties)
	round.Out = []int{out}
	r.outcome.Rounds = append(r.outcome.Rounds, round)
	return out
}

// Elect ends the round with the election of the one of among that comes first in the lot, and returns it. Among is as for First.
func (r *Rounds) Elect(round api.Round, among []int) int {
	winner := r.seat(among)
	round.Elected = []int{winner}
	r.outcome.Rounds = append(r.outcome.Rounds, round)
	return winner
}

// ElectAll ends the round with the election of all that are left, one at a time, each time one with the greatest number.
func (r *Rounds) ElectAll(round api.Round, numbers []int) {
	for len(r.left) > 0 {
		round.Elected = append(round.Elected, r.seat(r.Most(numbers)))
	}
	r.outcome.Rounds = append(r.outcome.Rounds, round)
}

// Outcome returns the outcome of the rounds, after the last of them.
func (r *Rounds) Outcome() api.Outcome { return r.outcome }

// seat elects the one of among that comes first in the lot, and returns it.
func (r *Rounds) seat(among []int) int {
	winner, ties := First(among, r.lot)
	r.remove(winner, ties)
	r.outcome.Elected = append(r.outcome.Elected, winner)
	return winner
}

// remove removes a candidate from those that are left, by a decision with these ties.
func (r *Rounds) remove(c int, ties []api.Tie) {
	r.left = slices.DeleteFunc(r.left, func(o int) bool { return o == c })
	r.outcome.Ties = append(r.outcome.Ties, ties...)
}
