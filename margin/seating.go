package margin

import (
	"slices"

	"suffrage/api"
	"suffrage/count"
	"suffrage/profile"
)

// scale is how a rule gives points: for ballots of which kind, how many one gives a candidate, and how many at the most.
type scale struct {
	kind   uint8
	most   int
	points func(marks []int, c int) int
}

// scaleOf returns the scale of one of rules 1 to 4. That of any other rule is for no kind, so that no ballot is valid by it.
func scaleOf(rule uint8, cands int) scale {
	switch rule {
	case api.RulePlurality:
		return scale{api.KindMark, 1, func(marks []int, c int) int { return oneIf(isFor(marks, c)) }}
	case api.RuleApproval:
		return scale{api.KindMark, 1, func(marks []int, c int) int { return oneIf(slices.Contains(marks, c)) }}
	case api.RuleScore:
		return scale{api.KindScore, api.MaxScore, func(marks []int, c int) int { return marks[c] }}
	case api.RuleBorda:
		return scale{api.KindRank, cands - 1, func(marks []int, c int) int {
			if rank := slices.Index(marks, c); rank >= 0 {
				return cands - 1 - rank
			}
			return 0
		}}
	}
	return scale{}
}

// seating is a count in one round, by one of rules 1 to 4, by D'Hondt or by Sainte-Laguë.
type seating struct {
	rule    uint8
	profile api.Profile
	lot     []int
	elected []int
	had     []int // the points of each candidate, or its votes
	seats   []int // of each candidate
}

func newSeating(c api.Contest, p api.Profile, lot []int, o api.Outcome) seating {
	seats, _ := count.Seats(o, p.Cands) // no error, as it is an outcome among these candidates
	return seating{rule: c.Rule, profile: p, lot: lot, elected: o.Elected, had: wholes(o.Rounds[0].Had), seats: seats}
}

// margin returns the least number of ballots that must be changed for one of the takers to get a seat of another candidate. It is never more than all of them.
func (s seating) margin(takers []int) int {
	least, _ := profile.Many(s.profile)
	for x, y := range rivals(s.elected, takers) {
		var gains, counts []int
		for _, r := range s.profile.Rows {
			gains = append(gains, s.gain(r.Marks, x, y))
			counts = append(counts, r.Many)
		}
		n, _, _ := Least(gains, counts, s.need(x, y))
		least = min(least, n)
	}
	return least
}

// gain returns by how much changing a ballot with these marks can help y to a seat of x.
func (s seating) gain(marks []int, x, y int) int {
	switch s.rule {
	case api.RuleDHondt, api.RuleSainte:
		last, next := s.divisors(x, y)
		switch {
		case isFor(marks, x):
			return last + next
		case isFor(marks, y):
			return 0
		}
		return last
	}
	gain, _ := Gain(s.rule, s.profile.Cands, marks, x, y) // no error, as the profile is valid
	return gain
}

// need returns how much must be gained for y to get a seat of x.
func (s seating) need(x, y int) int {
	last, next := s.divisors(x, y)
	return s.had[x]*next - s.had[y]*last + before(s.lot, x, y)
}

// divisors returns the divisor of the last seat of x and that of the next seat of y, by which their votes are compared. Points are compared as they are.
func (s seating) divisors(x, y int) (last, next int) {
	switch s.rule {
	case api.RuleDHondt:
		return s.seats[x], s.seats[y] + 1
	case api.RuleSainte:
		return 2*s.seats[x] - 1, 2*s.seats[y] + 1
	}
	return 1, 1
}

// isFor reports whether c alone is marked.
func isFor(marks []int, c int) bool { return len(marks) == 1 && marks[0] == c }
