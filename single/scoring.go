package single

import (
	"slices"

	"suffrage/api"
	"suffrage/rule"
)

// scoring is what distinguishes the rules.
type scoring struct {
	kind   uint8                                    // of the ballots
	points func(marks []int, cands int) map[int]int // that a valid ballot gives to candidates; none to those that are missing
	loses  bool                                     // whether ballots that give no points are lost
}

// count returns the outcome of the rule.
func (s scoring) count(p api.Profile, seats int, lot []int) (api.Outcome, api.Errno) {
	if e := rule.Check(p, s.kind, seats, min(p.Cands, api.MaxSeats), lot); e != api.OK {
		return api.Outcome{}, e
	}
	had, lost := s.total(p)
	elected, ties := fill(seats, had, lot)
	return rule.Alone(rule.Round(had, lost), elected, ties), api.OK
}

// total returns the points that all ballots of p, which is valid, give to each candidate, and the number of ballots that are lost.
func (s scoring) total(p api.Profile) (had []int, lost int) {
	had = make([]int, p.Cands)
	for _, row := range p.Rows {
		points := s.points(row.Marks, p.Cands)
		if s.loses && len(points) == 0 {
			lost += row.Many
		}
		for c := range had {
			had[c] += points[c] * row.Many
		}
	}
	return had, lost
}

// fill gives out the seats, of which there are at most as many as candidates, and returns who got them, in order, and the ties.
func fill(seats int, had, lot []int) (elected []int, ties []api.Tie) {
	for range seats {
		chosen, tie := rule.First(leaders(had, elected), lot)
		elected, ties = append(elected, chosen), append(ties, tie...)
	}
	return elected, ties
}

// leaders returns the candidates with the most points among those without a seat.
func leaders(had, elected []int) []int {
	var best []int
	for c, n := range had {
		if slices.Contains(elected, c) {
			continue
		}
		switch {
		case len(best) == 0 || n > had[best[0]]:
			best = []int{c}
		case n == had[best[0]]:
			best = append(best, c)
		}
	}
	return best
}

// oneAlone gives a point to a candidate that is marked alone.
func oneAlone(marks []int, cands int) map[int]int {
	if len(marks) != 1 {
		return nil
	}
	return oneEach(marks, cands)
}

// oneEach gives a point to each candidate that is marked.
func oneEach(marks []int, _ int) map[int]int {
	points := map[int]int{}
	for _, c := range marks {
		points[c] = 1
	}
	return points
}

// itsScore gives each candidate its score.
func itsScore(marks []int, _ int) map[int]int {
	points := map[int]int{}
	for c, score := range marks {
		points[c] = score
	}
	return points
}

// allBehind gives each candidate of a ranking a point for every candidate behind it.
func allBehind(marks []int, cands int) map[int]int {
	points := map[int]int{}
	for place, c := range marks {
		points[c] = cands - 1 - place // all that are not ahead of it, on the ballot or not
	}
	return points
}
