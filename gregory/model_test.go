package gregory_test

import (
	"math/big"
	"slices"

	"suffrage/api"
	"suffrage/profile"
)

// The model follows the words of the document. For Count it puts the ballots on piles, as a count by hand does: whenever a candidate is elected or eliminated, the ballots of its pile go to the next hopeful candidate's, at a new value if it is elected, or nowhere. Its numbers are integers of any size.

const (
	million = 1_000_000
	unit    = 1_000_000_000
	most    = million * unit // the greatest valid fixed-point number
)

// paper is the ballots of a row, which stay together.
type paper struct {
	marks       []int
	many, value *big.Int
}

// piles are the ballots as a count by hand has them.
type piles struct {
	of   [10][]paper // for each candidate
	gone []int       // who is elected or eliminated
}

// put puts ballots on the pile of their first hopeful candidate.
func (l *piles) put(x paper) {
	for _, c := range x.marks {
		if !slices.Contains(l.gone, c) {
			l.of[c] = append(l.of[c], x)
			return
		}
	}
}

// pass distributes the pile of a candidate that is hopeful no more, at a new value.
func (l *piles) pass(c int, value func(old *big.Int) *big.Int) {
	pile := l.of[c]
	l.of[c], l.gone = nil, append(l.gone, c)
	for _, x := range pile {
		l.put(paper{x.marks, x.many, value(x.value)})
	}
}

// worth returns the value of all ballots on a pile.
func worth(pile []paper) *big.Int {
	sum := new(big.Int)
	for _, x := range pile {
		sum.Add(sum, new(big.Int).Mul(x.many, x.value))
	}
	return sum
}

// modelVotes returns the number of ballots with at least one mark.
func modelVotes(p api.Profile) int {
	n := 0
	for _, r := range p.Rows {
		if len(r.Marks) >= 1 {
			n += r.Many
		}
	}
	return n
}

// isLot reports whether the lot is a permutation of so many candidates.
func isLot(lot []int, cands int) bool {
	return len(lot) < 100 && slices.Equal(slices.Sorted(slices.Values(lot)), upTo(min(max(cands, 0), 100)))
}

func modelError(p api.Profile, seats int, lot []int) api.Errno {
	if profile.Check(p) != api.OK || p.Kind != 1 {
		return api.ErrBad
	}
	if seats < 1 || seats > p.Cands || !isLot(lot, p.Cands) {
		return api.ErrArg
	}
	return api.OK
}

// modelQuota returns the least whole number of which seats and one more are more than the votes.
func modelQuota(p api.Profile, seats int) (int, api.Errno) {
	if profile.Check(p) != api.OK || p.Kind != 1 {
		return 0, api.ErrBad
	}
	if seats < 1 || seats > 10 {
		return 0, api.ErrArg
	}
	quota := big.NewInt(int64(modelVotes(p)))
	quota.Div(quota, big.NewInt(int64(seats)+1))
	return int(quota.Int64()) + 1, api.OK
}

func modelPass(value, n, quota int) (int, api.Errno) {
	if value < 0 || value > unit || n < 1 || n > most || quota < 0 || quota > n {
		return 0, api.ErrArg
	}
	return int(passed(big.NewInt(int64(value)), big.NewInt(int64(n)), big.NewInt(int64(quota))).Int64()), api.OK
}

// passed returns value * (n - quota) / n, rounded down.
func passed(value, n, quota *big.Int) *big.Int {
	product := new(big.Int).Sub(n, quota)
	return product.Div(product.Mul(product, value), n)
}

// extreme returns the hopeful candidates than whom none has more (sign 1) or less (sign -1), in ascending order.
func extreme(hopeful []int, had []*big.Int, sign int) []int {
	var l []int
	for _, c := range hopeful {
		if !slices.ContainsFunc(hopeful, func(o int) bool { return sign*had[o].Cmp(had[c]) > 0 }) {
			l = append(l, c)
		}
	}
	return l
}

// pick returns the one of among that comes first in the lot, or last.
func pick(among, lot []int, last bool) int {
	chosen := -1
	for _, c := range lot {
		if slices.Contains(among, c) && (chosen < 0 || last) {
			chosen = c
		}
	}
	return chosen
}

// tally is what the model's count has come to.
type tally struct {
	piles
	lot     []int
	hopeful []int
	o       api.Outcome
}

// decide takes one of among, by lot, from the hopeful candidates.
func (m *tally) decide(among []int, last bool) int {
	c := pick(among, m.lot, last)
	if len(among) > 1 {
		m.o.Ties = append(m.o.Ties, tie(c, among...))
	}
	m.hopeful = others(m.hopeful, c)
	return c
}

// totals returns what each candidate has, and what of all votes nobody has.
func (m *tally) totals(cands int, votes, quota *big.Int) (had []*big.Int, lost *big.Int) {
	lost = new(big.Int).Set(votes)
	for c := range cands {
		n := worth(m.of[c]) // which is nothing if the candidate is hopeful no more
		if slices.Contains(m.o.Elected, c) {
			n = quota
		}
		had = append(had, n)
		lost.Sub(lost, n)
	}
	if lost.Sign() < 0 {
		lost = new(big.Int)
	}
	return had, lost
}

func modelCount(p api.Profile, seats int, lot []int) (api.Outcome, api.Errno) {
	if e := modelError(p, seats, lot); e != api.OK {
		return api.Outcome{}, e
	}
	votes, quota := billions(modelVotes(p)), billions(modelVotes(p)/(seats+1)+1)
	m := tally{lot: lot, hopeful: upTo(p.Cands)}
	for _, r := range p.Rows {
		m.put(paper{r.Marks, big.NewInt(int64(r.Many)), billions(1)})
	}
	for len(m.o.Elected) < seats {
		had, lost := m.totals(p.Cands, votes, quota)
		round := api.Round{Lost: modelNumber(lost)}
		for _, n := range had {
			round.Had = append(round.Had, modelNumber(n))
		}
		greatest := extreme(m.hopeful, had, 1)
		n := had[greatest[0]]
		if len(m.hopeful) <= seats-len(m.o.Elected) {
			for len(m.hopeful) > 0 {
				round.Elected = append(round.Elected, m.decide(extreme(m.hopeful, had, 1), false))
			}
		} else if n.Cmp(quota) >= 0 {
			c := m.decide(greatest, false)
			round.Elected = []int{c}
			m.pass(c, func(old *big.Int) *big.Int { return passed(old, n, quota) })
		} else {
			c := m.decide(extreme(m.hopeful, had, -1), true)
			round.Out = []int{c}
			m.pass(c, func(old *big.Int) *big.Int { return old })
		}
		m.o.Elected = append(m.o.Elected, round.Elected...)
		m.o.Rounds = append(m.o.Rounds, round)
	}
	return m.o, api.OK
}

// billions returns a whole number of votes in billionths.
func billions(n int) *big.Int { return new(big.Int).Mul(big.NewInt(int64(n)), big.NewInt(unit)) }

// modelNumber returns a number of billionths, which is not negative, as a rational number in its one form.
func modelNumber(n *big.Int) api.Ratio {
	x := new(big.Rat).SetFrac(n, big.NewInt(unit))
	return api.Ratio{Num: limbsOf(x.Num()), Den: limbsOf(x.Denom())}
}

// limbsOf returns the limbs of n, which is not negative.
func limbsOf(n *big.Int) []uint32 {
	var limbs []uint32
	for rest := new(big.Int).Set(n); rest.Sign() > 0; rest.Rsh(rest, 32) {
		limbs = append(limbs, uint32(rest.Uint64()))
	}
	return limbs
}

// modelRename returns the outcome in which candidate c is called perm[c].
func modelRename(o api.Outcome, perm []int) api.Outcome {
	renamed := api.Outcome{Elected: called(o.Elected, perm)}
	for _, r := range o.Rounds {
		had := make([]api.Ratio, len(r.Had))
		for c, n := range r.Had {
			had[perm[c]] = n
		}
		renamed.Rounds = append(renamed.Rounds, api.Round{Had: had, Lost: r.Lost, Elected: called(r.Elected, perm), Out: called(r.Out, perm)})
	}
	for _, x := range o.Ties {
		renamed.Ties = append(renamed.Ties, tie(perm[x.Chosen], slices.Sorted(slices.Values(called(x.Among, perm)))...))
	}
	return renamed
}

// called returns the names of the candidates of a list.
func called(l, perm []int) []int {
	var names []int
	for _, c := range l {
		names = append(names, perm[c])
	}
	return names
}
