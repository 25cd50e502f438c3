package meek_test

import (
	"math/big"
	"slices"

	"suffrage/api"
	"suffrage/profile"
)

// The model follows the words of the document. What is beyond 64 bits it computes with integers of any size; the other numbers are far below that.

const (
	million = 1_000_000
	unit    = 1_000_000_000
	most    = million * unit // the greatest valid fixed-point number
	beyond  = 1_000_000      // what an elected candidate may have beyond the quota
	turns   = 200            // in a round, at the most
)

// isRanking reports whether the marks are distinct candidates.
func isRanking(marks []int, cands int) bool {
	if len(marks) > 10 {
		return false
	}
	for i, c := range marks {
		if c < 0 || c >= cands || slices.Contains(marks[:i], c) {
			return false
		}
	}
	return true
}

func modelParts(marks, keeps []int) ([]int, int, api.Errno) {
	if len(keeps) < 1 || len(keeps) > 10 || !isRanking(marks, len(keeps)) {
		return nil, 0, api.ErrArg
	}
	for _, keep := range keeps {
		if keep < 0 || keep > unit {
			return nil, 0, api.ErrArg
		}
	}
	parts, remaining := make([]int, len(keeps)), unit
	for _, c := range marks {
		product := remaining * keeps[c] // which is 10^18 at the most
		parts[c] = product / unit
		if product%unit > 0 {
			parts[c]++
		}
		remaining -= parts[c]
	}
	return parts, remaining, api.OK
}

func modelQuota(votes, lost, seats int) (int, api.Errno) {
	if votes < 0 || votes > million || lost < 0 || lost > votes*unit || seats < 1 || seats > 10 {
		return 0, api.ErrArg
	}
	return (votes*unit-lost)/(seats+1) + 1, api.OK
}

// modelKeep returns the least number that is not below the quotient.
func modelKeep(keep, n, quota int) (int, api.Errno) {
	if keep < 0 || keep > unit || n < 1 || n > most || quota < 0 || quota > n {
		return 0, api.ErrArg
	}
	product := new(big.Int).Mul(big.NewInt(int64(keep)), big.NewInt(int64(quota)))
	whole, left := product.QuoRem(product, big.NewInt(int64(n)), new(big.Int))
	return int(whole.Int64()) + left.Sign(), api.OK
}

// modelVotes returns the number of ballots with at least one mark.
func modelVotes(p api.Profile) int {
	n := 0
	for _, r := range p.Rows {
		if len(r.Marks) >= 1 {
			n += r.Many
		}
	}
	return n
}

// isLot reports whether the lot is a permutation of so many candidates.
func isLot(lot []int, cands int) bool {
	return len(lot) < 100 && slices.Equal(slices.Sorted(slices.Values(lot)), upTo(min(max(cands, 0), 100)))
}

func modelError(p api.Profile, seats int, lot []int) api.Errno {
	if profile.Check(p) != api.OK || p.Kind != 1 {
		return api.ErrBad
	}
	if seats < 1 || seats > p.Cands || !isLot(lot, p.Cands) {
		return api.ErrArg
	}
	return api.OK
}

// extreme returns the hopeful candidates than whom none has more (sign 1) or less (sign -1), in ascending order.
func extreme(hopeful, had []int, sign int) []int {
	var l []int
	for _, c := range hopeful {
		if !slices.ContainsFunc(hopeful, func(o int) bool { return sign*had[o] > sign*had[c] }) {
			l = append(l, c)
		}
	}
	return l
}

// pick returns the one of among that comes first in the lot, or last.
func pick(among, lot []int, last bool) int {
	chosen := -1
	for _, c := range lot {
		if slices.Contains(among, c) && (chosen < 0 || last) {
			chosen = c
		}
	}
	return chosen
}

// sums is what the ballots come to in a turn.
type sums struct {
	number      int
	had         []int
	lost, quota int
}

// tally is what the model's count has come to.
type tally struct {
	p              api.Profile
	seats          int
	lot            []int
	hopeful, keeps []int
	o              api.Outcome
	turns          []sums // of all rounds
	ended          bool
}

// decide takes one of among, by lot, from the hopeful candidates.
func (m *tally) decide(among []int, last bool) int {
	c := pick(among, m.lot, last)
	if len(among) > 1 {
		m.o.Ties = append(m.o.Ties, tie(c, among...))
	}
	m.hopeful = others(m.hopeful, c)
	return c
}

// distribute returns the sums of a turn.
func (m *tally) distribute(number int) sums {
	s := sums{number: number, had: make([]int, m.p.Cands)}
	for _, r := range m.p.Rows {
		parts, rest, _ := modelParts(r.Marks, m.keeps)
		for c, part := range parts {
			s.had[c] += r.Many * part
		}
		if len(r.Marks) > 0 {
			s.lost += r.Many * rest
		}
	}
	s.quota, _ = modelQuota(modelVotes(m.p), s.lost, m.seats)
	return s
}

// most returns the most that an elected candidate has beyond the quota, or a negative number if none is elected.
func (m *tally) most(s sums) int {
	n := -1
	for _, c := range m.o.Elected {
		n = max(n, s.had[c]-s.quota)
	}
	return n
}

// turn decides what follows a turn, and reports whether it is the next one.
func (m *tally) turn(s sums, round *api.Round) bool {
	for len(m.hopeful) > 0 && len(m.hopeful) <= m.seats-len(m.o.Elected)-len(round.Elected) {
		round.Elected = append(round.Elected, m.decide(extreme(m.hopeful, s.had, 1), false))
		m.ended = len(m.hopeful) == 0
	}
	if m.ended {
		return false
	}
	if first := extreme(m.hopeful, s.had, 1); s.had[first[0]] >= s.quota {
		round.Elected = []int{m.decide(first, false)}
		m.ended = len(m.o.Elected)+1 == m.seats
		return false
	}
	if m.most(s) <= beyond || s.number == turns {
		round.Out = []int{m.decide(extreme(m.hopeful, s.had, -1), true)}
		m.keeps[round.Out[0]] = 0
		return false
	}
	for _, c := range m.o.Elected {
		if s.had[c] > s.quota {
			m.keeps[c], _ = modelKeep(m.keeps[c], s.had[c], s.quota)
		}
	}
	return true
}

// modelTally returns all of a count, with its turns. The arguments are valid.
func modelTally(p api.Profile, seats int, lot []int) *tally {
	m := &tally{p: p, seats: seats, lot: lot, hopeful: upTo(p.Cands), keeps: slices.Repeat([]int{unit}, p.Cands)}
	for !m.ended {
		var round api.Round
		number := 1
		for m.turns = append(m.turns, m.distribute(1)); m.turn(m.turns[len(m.turns)-1], &round); {
			number++
			m.turns = append(m.turns, m.distribute(number))
		}
		last := m.turns[len(m.turns)-1]
		round.Lost = modelNumber(last.lost)
		for _, n := range last.had {
			round.Had = append(round.Had, modelNumber(n))
		}
		m.o.Elected = append(m.o.Elected, round.Elected...)
		m.o.Rounds = append(m.o.Rounds, round)
	}
	return m
}

func modelCount(p api.Profile, seats int, lot []int) (api.Outcome, api.Errno) {
	if e := modelError(p, seats, lot); e != api.OK {
		return api.Outcome{}, e
	}
	return modelTally(p, seats, lot).o, api.OK
}

// modelNumber returns a number of billionths, which is not negative, as a rational number in its one form.
func modelNumber(n int) api.Ratio {
	x := big.NewRat(int64(n), unit)
	return api.Ratio{Num: limbsOf(x.Num()), Den: limbsOf(x.Denom())}
}

// limbsOf returns the limbs of n, which is not negative.
func limbsOf(n *big.Int) []uint32 {
	var limbs []uint32
	for rest := new(big.Int).Set(n); rest.Sign() > 0; rest.Rsh(rest, 32) {
		limbs = append(limbs, uint32(rest.Uint64()))
	}
	return limbs
}

// modelRename returns the outcome in which candidate c is called perm[c].
func modelRename(o api.Outcome, perm []int) api.Outcome {
	renamed := api.Outcome{Elected: called(o.Elected, perm)}
	for _, r := range o.Rounds {
		had := make([]api.Ratio, len(r.Had))
		for c, n := range r.Had {
			had[perm[c]] = n
		}
		renamed.Rounds = append(renamed.Rounds, api.Round{Had: had, Lost: r.Lost, Elected: called(r.Elected, perm), Out: called(r.Out, perm)})
	}
	for _, x := range o.Ties {
		renamed.Ties = append(renamed.Ties, tie(perm[x.Chosen], slices.Sorted(slices.Values(called(x.Among, perm)))...))
	}
	return renamed
}

// called returns the names of the candidates of a list.
func called(l, perm []int) []int {
	var names []int
	for _, c := range l {
		names = append(names, perm[c])
	}
	return names
}
