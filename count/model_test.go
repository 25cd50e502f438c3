package count_test

import (
	"slices"
	"strings"

	"suffrage/api"
	"suffrage/condorcet"
	"suffrage/coombs"
	"suffrage/gregory"
	"suffrage/lists"
	"suffrage/meek"
	"suffrage/paths"
	"suffrage/phragmen"
	"suffrage/ranked"
	"suffrage/runoff"
	"suffrage/single"
)

// The model follows the words of the document: which contests and profiles are valid it finds out by itself, and of the functions of the rules it has the names that the chapter lists.

// isName reports whether s is a name.
func isName(s string) bool {
	return len(s) >= 1 && len(s) <= 40 && strings.IndexFunc(s, func(r rune) bool { return r < 33 || r > 126 }) < 0
}

// modelContestError returns the error of a contest.
func modelContestError(c api.Contest) api.Errno {
	if len(c.Cands) > 10 {
		return api.ErrMany
	}
	if !isName(c.Name) || len(c.Cands) < 1 || c.Rule < 1 || c.Rule > 16 || c.Seats < 1 || c.Seats > mostSeats(c.Rule, len(c.Cands)) {
		return api.ErrBad
	}
	for i, name := range c.Cands {
		if !isName(name) || slices.Contains(c.Cands[:i], name) {
			return api.ErrBad
		}
	}
	return api.OK
}

// isMarks reports whether a ballot of the kind may have these marks.
func isMarks(marks []int, cands int, kind uint8) bool {
	if kind == 3 {
		return len(marks) == cands && !slices.ContainsFunc(marks, func(score int) bool { return score < 0 || score > 10 })
	}
	for i, c := range marks {
		if c < 0 || c >= cands || slices.Contains(marks[:i], c) || kind == 2 && i > 0 && marks[i-1] > c {
			return false
		}
	}
	return true
}

// modelProfileError returns the error of a profile.
func modelProfileError(p api.Profile) api.Errno {
	if len(p.Rows) > 64 {
		return api.ErrFull
	}
	if p.Cands < 1 || p.Cands > 10 || p.Kind < 1 || p.Kind > 3 {
		return api.ErrBad
	}
	all := 0
	for i, r := range p.Rows {
		if r.Many < 1 || !isMarks(r.Marks, p.Cands, p.Kind) || i > 0 && slices.Compare(p.Rows[i-1].Marks, r.Marks) >= 0 {
			return api.ErrBad
		}
		all += min(r.Many, 2_000_000)
	}
	if all > 1_000_000 {
		return api.ErrMany
	}
	return api.OK
}

// modelCount returns the count by a rule.
func modelCount(rule uint8, p api.Profile, seats int, lot []int) (api.Outcome, api.Errno) {
	switch rule {
	case 1:
		return single.Plurality(p, seats, lot)
	case 2:
		return single.Approval(p, seats, lot)
	case 3:
		return single.Score(p, seats, lot)
	case 4:
		return single.Borda(p, seats, lot)
	case 5:
		return condorcet.Copeland(p, seats, lot)
	case 6:
		return condorcet.Minimax(p, seats, lot)
	case 7:
		return paths.Count(p, seats, lot)
	case 8:
		return ranked.Count(p, seats, lot)
	case 9:
		return runoff.Count(p, seats, lot)
	case 10:
		return coombs.Count(p, seats, lot)
	case 11:
		return gregory.Count(p, seats, lot)
	case 12:
		return meek.Count(p, seats, lot)
	case 13:
		return phragmen.Count(p, seats, lot)
	case 14:
		return lists.DHondt(p, seats, lot)
	case 15:
		return lists.Sainte(p, seats, lot)
	case 16:
		return lists.Hare(p, seats, lot)
	}
	panic("not of the model")
}

func modelRun(c api.Contest, p api.Profile, lot []int) (api.Outcome, api.Errno) {
	if e := modelContestError(c); e != api.OK {
		return api.Outcome{}, e
	}
	if e := modelProfileError(p); e != api.OK {
		return api.Outcome{}, e
	}
	if p.Cands != len(c.Cands) || p.Kind != kindOf(c.Rule) {
		return api.Outcome{}, api.ErrFit
	}
	return modelCount(c.Rule, p, c.Seats, lot)
}

// areCandidates reports whether the lists have nothing but candidates.
func areCandidates(cands int, lists ...[]int) bool {
	return !slices.ContainsFunc(slices.Concat(lists...), func(c int) bool { return c < 0 || c >= cands })
}

func modelSeats(o api.Outcome, cands int) ([]int, api.Errno) {
	if cands < 1 || cands > 10 || !areCandidates(cands, o.Elected) {
		return nil, api.ErrArg
	}
	var seats []int
	for c := range cands {
		seats = append(seats, len(slices.DeleteFunc(slices.Clone(o.Elected), func(other int) bool { return other != c })))
	}
	return seats, api.OK
}

// isOf reports whether o tells of n candidates.
func isOf(o api.Outcome, n int) bool {
	told := [][]int{o.Elected}
	for _, r := range o.Rounds {
		if len(r.Had) != n {
			return false
		}
		told = append(told, r.Elected, r.Out)
	}
	for _, x := range o.Ties {
		told = append(told, x.Among, []int{x.Chosen})
	}
	return areCandidates(n, told...)
}

func modelRename(o api.Outcome, perm []int) (api.Outcome, api.Errno) {
	n := len(perm)
	if n < 1 || n > 10 || !slices.Equal(inOrder(perm), upTo(n)) || !isOf(o, n) {
		return api.Outcome{}, api.ErrArg
	}
	renamed := api.Outcome{Elected: called(o.Elected, perm)}
	for _, r := range o.Rounds {
		round := api.Round{Lost: r.Lost, Elected: called(r.Elected, perm), Out: called(r.Out, perm)}
		for _, before := range inverse(perm) {
			round.Had = append(round.Had, r.Had[before])
		}
		renamed.Rounds = append(renamed.Rounds, round)
	}
	for _, x := range o.Ties {
		renamed.Ties = append(renamed.Ties, tie(perm[x.Chosen], inOrder(called(x.Among, perm))...))
	}
	return renamed, api.OK
}
