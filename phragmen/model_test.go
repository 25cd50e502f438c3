package phragmen_test

import (
	"math/big"
	"slices"

	"suffrage/api"
	"suffrage/profile"
)

// The model follows the words of the document: every ballot has a load, a number of any size. Where there are very many ballots, those of a row are in one pile.

// pile is some ballots with the same marks.
type pile struct {
	marks []int
	row   int
	many  int
	load  *big.Rat
}

// pilesOf returns the ballots of p, with loads of 0, each in a pile of its own if there are few.
func pilesOf(p api.Profile) []*pile {
	all := 0
	for _, r := range p.Rows {
		all += r.Many
	}
	var piles []*pile
	for i, r := range p.Rows {
		if all > 60 {
			piles = append(piles, &pile{r.Marks, i, r.Many, new(big.Rat)})
			continue
		}
		for range r.Many {
			piles = append(piles, &pile{r.Marks, i, 1, new(big.Rat)})
		}
	}
	return piles
}

// supporters returns the ballots that mark x, and how many there are.
func supporters(piles []*pile, x int) (behind []*pile, support int) {
	for _, b := range piles {
		if slices.Contains(b.marks, x) {
			behind, support = append(behind, b), support+b.many
		}
	}
	return behind, support
}

// costOf returns the cost of x, or nil if x has no support.
func costOf(piles []*pile, x int) *big.Rat {
	behind, support := supporters(piles, x)
	if support == 0 {
		return nil
	}
	sum := new(big.Rat)
	for _, b := range behind {
		sum.Add(sum, new(big.Rat).Mul(big.NewRat(int64(b.many), 1), b.load))
	}
	sum.Add(sum, big.NewRat(1, 1))
	return sum.Mul(sum, big.NewRat(1, int64(support)))
}

// elect makes the cost of x the load of its supporters.
func elect(piles []*pile, x int) {
	cost := costOf(piles, x)
	behind, _ := supporters(piles, x)
	for _, b := range behind {
		b.load = cost
	}
}

// isLot reports whether the lot is a permutation of so many candidates.
func isLot(lot []int, cands int) bool {
	return len(lot) < 100 && slices.Equal(inOrder(lot), upTo(min(max(cands, 0), 100)))
}

// isApprovals reports whether the calls take p.
func isApprovals(p api.Profile) bool { return profile.Check(p) == api.OK && p.Kind == 2 }

func modelCount(p api.Profile, seats int, lot []int) (api.Outcome, api.Errno) {
	if !isApprovals(p) {
		return api.Outcome{}, api.ErrBad
	}
	if seats < 1 || seats > p.Cands || !isLot(lot, p.Cands) {
		return api.Outcome{}, api.ErrArg
	}
	var o api.Outcome
	piles, blank := pilesOf(p), 0
	for _, b := range piles {
		if len(b.marks) == 0 {
			blank += b.many
		}
	}
	for range seats {
		elected, tied, had := modelRound(piles, o.Elected, lot)
		elect(piles, elected)
		o.Elected = append(o.Elected, elected)
		o.Rounds = append(o.Rounds, api.Round{Had: had, Lost: ratioOf(big.NewRat(int64(blank), 1)), Elected: []int{elected}})
		if len(tied) > 1 {
			o.Ties = append(o.Ties, tie(elected, tied...))
		}
	}
	return o, api.OK
}

// modelRound returns who is elected next, those among whom the lot decides, and the costs.
func modelRound(piles []*pile, before, lot []int) (elected int, tied []int, had []api.Ratio) {
	var left []int
	var least *big.Rat
	costs := make([]*big.Rat, len(lot))
	for c := range lot {
		if slices.Contains(before, c) {
			continue
		}
		left = append(left, c)
		costs[c] = costOf(piles, c)
		if costs[c] != nil && (least == nil || costs[c].Cmp(least) < 0) {
			least = costs[c]
		}
	}
	for c, cost := range costs {
		if cost == nil {
			had = append(had, ratioOf(new(big.Rat)))
			continue
		}
		had = append(had, ratioOf(cost))
		if cost.Cmp(least) == 0 {
			tied = append(tied, c)
		}
	}
	if least == nil {
		tied = left
	}
	for _, c := range lot {
		if slices.Contains(tied, c) {
			return c, tied, had
		}
	}
	panic("not of the model")
}

// isElected reports whether the list has only candidates, and none twice.
func isElected(l []int, cands int) bool {
	for i, c := range l {
		if c < 0 || c >= cands || slices.Contains(l[:i], c) {
			return false
		}
	}
	return true
}

func modelLoads(p api.Profile, elected []int) ([]api.Ratio, api.Errno) {
	if !isApprovals(p) {
		return nil, api.ErrBad
	}
	if !isElected(elected, p.Cands) {
		return nil, api.ErrArg
	}
	piles := pilesOf(p)
	for _, c := range elected {
		elect(piles, c)
	}
	loads := make([]api.Ratio, len(p.Rows))
	for _, b := range piles {
		loads[b.row] = ratioOf(b.load)
	}
	return loads, api.OK
}

// fits reports whether all numbers have at most MaxLimbs limbs.
func fits(l ...*big.Int) bool {
	return !slices.ContainsFunc(l, func(n *big.Int) bool { return n.BitLen() > 96*32 })
}

// isNumber reports whether a valid number has these limbs.
func isNumber(limbs []uint32) bool {
	return len(limbs) <= 96 && (len(limbs) == 0 || limbs[len(limbs)-1] > 0)
}

// isRatio reports whether x is valid.
func isRatio(x api.Ratio) bool {
	if !isNumber(x.Num) || !isNumber(x.Den) || len(x.Den) == 0 {
		return false
	}
	num, den := intOf(x.Num), intOf(x.Den)
	return new(big.Int).GCD(nil, nil, num, den).Cmp(big.NewInt(1)) == 0 && (num.Sign() > 0 || !x.Neg)
}

func times(a, b *big.Int) *big.Int { return new(big.Int).Mul(a, b) }

// modelPlus returns the sum of x and n times load, or the error of layer 4.
func modelPlus(x *big.Rat, n int, load api.Ratio) (*big.Rat, api.Errno) {
	if !isRatio(load) {
		return nil, api.ErrBad
	}
	value, many := ratOf(load), big.NewInt(int64(n))
	if !fits(times(many, value.Num()), value.Denom()) {
		return nil, api.ErrGreat
	}
	y := new(big.Rat).Mul(new(big.Rat).SetInt(many), value)
	a, b := times(x.Num(), y.Denom()), times(y.Num(), x.Denom())
	if !fits(a, b, new(big.Int).Add(a, b), times(x.Denom(), y.Denom())) {
		return nil, api.ErrGreat
	}
	return new(big.Rat).Add(x, y), api.OK
}

func modelCost(p api.Profile, loads []api.Ratio, x int) (api.Ratio, bool, api.Errno) {
	if !isApprovals(p) {
		return api.Ratio{}, false, api.ErrBad
	}
	if x < 0 || x >= p.Cands || len(loads) != len(p.Rows) {
		return api.Ratio{}, false, api.ErrArg
	}
	sum, support := big.NewRat(1, 1), int64(0)
	for i, r := range p.Rows {
		if !slices.Contains(r.Marks, x) {
			continue
		}
		var e api.Errno
		sum, e = modelPlus(sum, r.Many, loads[i])
		if e != api.OK {
			return api.Ratio{}, false, e
		}
		support += int64(r.Many)
	}
	if support == 0 {
		return api.Ratio{}, false, api.OK
	}
	if !fits(sum.Num(), times(sum.Denom(), big.NewInt(support))) {
		return api.Ratio{}, false, api.ErrGreat
	}
	return ratioOf(sum.Mul(sum, big.NewRat(1, support))), true, api.OK
}

// modelRename returns the outcome in which candidate c is called perm[c].
func modelRename(o api.Outcome, perm []int) api.Outcome {
	renamed := api.Outcome{Elected: called(o.Elected, perm)}
	for _, r := range o.Rounds {
		had := make([]api.Ratio, len(r.Had))
		for c, n := range r.Had {
			had[perm[c]] = n
		}
		renamed.Rounds = append(renamed.Rounds, api.Round{Had: had, Lost: r.Lost, Elected: called(r.Elected, perm), Out: called(r.Out, perm)})
	}
	for _, x := range o.Ties {
		renamed.Ties = append(renamed.Ties, tie(perm[x.Chosen], inOrder(called(x.Among, perm))...))
	}
	return renamed
}
