// Package rule holds what the voting rules have in common: what they require of their arguments, choices by lot, rounds of numbers, and the state of a count in rounds, which elect and eliminate candidates.
package rule

import (
	"slices"

	"suffrage/api"
	"suffrage/ballot"
	"suffrage/profile"
	"suffrage/ratio"
)

// Check returns ErrBad unless p is valid and has ballots of the kind; otherwise ErrArg unless seats is between 1 and most and lot is a permutation of the candidates.
func Check(p api.Profile, kind uint8, seats, most int, lot []int) api.Errno {
	if e := CheckKind(p, kind); e != api.OK {
		return e
	}
	if seats < 1 || seats > most || !IsLot(lot, p.Cands) {
		return api.ErrArg
	}
	return api.OK
}

// CheckKind returns ErrBad unless p is valid and has ballots of the kind.
func CheckKind(p api.Profile, kind uint8) api.Errno {
	if profile.Check(p) != api.OK || p.Kind != kind {
		return api.ErrBad
	}
	return api.OK
}

// IsLot reports whether lot has each of cands candidates once, that is, whether it is a ranking of all of them. There is no lot if cands is not between 1 and MaxCands.
func IsLot(lot []int, cands int) bool { return len(lot) == cands && IsRanking(lot, cands) }

// IsRanking reports whether l has some of cands candidates, each at most once. Nothing is a ranking if cands is not between 1 and MaxCands.
func IsRanking(l []int, cands int) bool {
	return ballot.Check(api.Ballot{Kind: api.KindRank, Marks: l}, cands) == api.OK
}

// First returns the one of among that comes first in the lot, and the tie if there are several. Among is in ascending order, and at least one of it is in the lot.
func First(among, lot []int) (chosen int, ties []api.Tie) {
	chosen = lot[slices.IndexFunc(lot, func(c int) bool { return slices.Contains(among, c) })]
	if len(among) > 1 {
		ties = []api.Tie{{Among: slices.Clone(among), Chosen: chosen}}
	}
	return chosen, ties
}

// Last is like First, but returns the one of among that comes last in the lot.
func Last(among, lot []int) (chosen int, ties []api.Tie) {
	lot = slices.Clone(lot)
	slices.Reverse(lot)
	return First(among, lot)
}

// Round returns a round with these totals of the candidates and of what is lost.
func Round(had []int, lost int) api.Round {
	return RoundOf(func(n int) (api.Ratio, api.Errno) { return ratio.Whole(n), api.OK }, had, lost)
}

// RoundOf is like Round, but the totals stand for rational numbers other than themselves. There is a number for each of them.
func RoundOf(number func(n int) (api.Ratio, api.Errno), had []int, lost int) api.Round {
	var round api.Round
	round.Lost, _ = number(lost)
	for _, n := range had {
		x, _ := number(n)
		round.Had = append(round.Had, x)
	}
	return round
}

// Elect returns the outcome of this round alone, in which the one of among that comes first in the lot is elected to the only seat. Among is as for First.
func Elect(round api.Round, among, lot []int) api.Outcome {
	winner, ties := First(among, lot)
	return Alone(round, []int{winner}, ties)
}

// Alone returns the outcome of this round alone, which elects these candidates by decisions with these ties. It keeps elected and ties.
func Alone(round api.Round, elected []int, ties []api.Tie) api.Outcome {
	round.Elected = slices.Clone(elected)
	return api.Outcome{Elected: elected, Rounds: []api.Round{round}, Ties: ties}
}
