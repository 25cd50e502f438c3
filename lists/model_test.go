package lists_test

import (
	"math/big"
	"slices"

	"suffrage/api"
	"suffrage/lists"
	"suffrage/profile"
)

// The model follows the words of the document, seat by seat, with quotients, shares and remainders as numbers of any size.

const million = 1_000_000

// method is one of the three functions, and the document's way to allocate its seats.
type method struct {
	name  string
	do    func(p api.Profile, seats int, lot []int) (api.Outcome, api.Errno)
	seats func(votes []int, seats int, lot []int) ([]int, []api.Tie)
}

func methods() []method { return []method{dhondt(), sainte(), hare()} }

func dhondt() method { return method{"DHondt", lists.DHondt, byQuotients(dhondtQuotient)} }

func sainte() method { return method{"Sainte", lists.Sainte, byQuotients(sainteQuotient)} }

func hare() method { return method{"Hare", lists.Hare, byRemainders} }

func dhondtQuotient(v, s int) *big.Rat { return big.NewRat(int64(v), int64(s+1)) }

func sainteQuotient(v, s int) *big.Rat { return big.NewRat(int64(v), int64(2*s+1)) }

// modelVotes returns the votes of each party, and the number of invalid ballots.
func modelVotes(p api.Profile) (votes []int, invalid int) {
	valid, all := 0, 0
	for party := range p.Cands {
		n := 0
		for _, r := range p.Rows {
			if slices.Equal(r.Marks, []int{party}) {
				n += r.Many
			}
		}
		votes, valid = append(votes, n), valid+n
	}
	for _, r := range p.Rows {
		all += r.Many
	}
	return votes, all - valid
}

// pick returns the one of among that comes first in the lot, and the tie if there are several.
func pick(among, lot []int) (int, []api.Tie) {
	chosen := among[0]
	for _, party := range among {
		if slices.Index(lot, party) < slices.Index(lot, chosen) {
			chosen = party
		}
	}
	if len(among) == 1 {
		return chosen, nil
	}
	return chosen, ties(tie(chosen, among...))
}

// most returns the parties of a list with the greatest number.
func most(parties []int, number func(party int) *big.Rat) []int {
	return slices.DeleteFunc(slices.Clone(parties), func(party int) bool {
		return slices.ContainsFunc(parties, func(other int) bool { return number(other).Cmp(number(party)) > 0 })
	})
}

func byQuotients(quotient func(v, s int) *big.Rat) func(votes []int, seats int, lot []int) ([]int, []api.Tie) {
	return func(votes []int, seats int, lot []int) (elected []int, all []api.Tie) {
		for range seats {
			party, ties := pick(most(upTo(len(votes)), func(party int) *big.Rat { return quotient(votes[party], number(elected, party)) }), lot)
			elected, all = append(elected, party), append(all, ties...)
		}
		return elected, all
	}
}

// number returns how often the party is in the list.
func number(l []int, party int) int {
	n := 0
	for _, other := range l {
		if other == party {
			n++
		}
	}
	return n
}

// modelShares returns the floor of votes * seats / V and votes * seats mod V of each party, where V are all votes.
func modelShares(votes []int, seats int) (floors []int, remainders []*big.Rat) {
	all := new(big.Int)
	for _, n := range votes {
		all.Add(all, big.NewInt(int64(n)))
	}
	for _, n := range votes {
		floor, remainder := new(big.Int), new(big.Int)
		if all.Sign() > 0 {
			floor.DivMod(big.NewInt(int64(n*seats)), all, remainder)
		}
		floors, remainders = append(floors, int(floor.Int64())), append(remainders, new(big.Rat).SetInt(remainder))
	}
	return floors, remainders
}

func byRemainders(votes []int, seats int, lot []int) (elected []int, all []api.Tie) {
	floors, remainders := modelShares(votes, seats)
	for party, n := range floors {
		elected = append(elected, slices.Repeat([]int{party}, n)...)
	}
	var got []int // by their remainders
	for len(elected) < seats {
		if len(got) == len(votes) {
			got = nil
		}
		eligible := slices.DeleteFunc(upTo(len(votes)), func(party int) bool { return slices.Contains(got, party) })
		party, ties := pick(most(eligible, func(party int) *big.Rat { return remainders[party] }), lot)
		elected, got, all = append(elected, party), append(got, party), append(all, ties...)
	}
	return elected, all
}

// isLot reports whether the lot is a permutation of so many parties.
func isLot(lot []int, cands int) bool {
	return len(lot) < 100 && slices.Equal(slices.Sorted(slices.Values(lot)), upTo(min(max(cands, 0), 100)))
}

func modelError(p api.Profile, seats int, lot []int) api.Errno {
	if profile.Check(p) != api.OK || p.Kind != 2 {
		return api.ErrBad
	}
	if seats < 1 || seats > 10 || !isLot(lot, p.Cands) {
		return api.ErrArg
	}
	return api.OK
}

func (m method) model(p api.Profile, seats int, lot []int) (api.Outcome, api.Errno) {
	if e := modelError(p, seats, lot); e != api.OK {
		return api.Outcome{}, e
	}
	votes, invalid := modelVotes(p)
	elected, ties := m.seats(votes, seats, lot)
	return outcome(votes, invalid, elected, ties...), api.OK
}

// modelNumber returns a whole number of less than 33 bits that is not negative.
func modelNumber(n int) api.Ratio {
	if n < 0 || n >= 1<<32 {
		panic("not of the model")
	}
	if n == 0 {
		return api.Ratio{Den: []uint32{1}}
	}
	return api.Ratio{Num: []uint32{uint32(n)}, Den: []uint32{1}}
}

// modelRename returns the outcome in which party c is called perm[c].
func modelRename(o api.Outcome, perm []int) api.Outcome {
	renamed := api.Outcome{Elected: called(o.Elected, perm)}
	for _, r := range o.Rounds {
		had := make([]api.Ratio, len(r.Had))
		for c, n := range r.Had {
			had[perm[c]] = n
		}
		renamed.Rounds = append(renamed.Rounds, api.Round{Had: had, Lost: r.Lost, Elected: called(r.Elected, perm), Out: called(r.Out, perm)})
	}
	for _, x := range o.Ties {
		renamed.Ties = append(renamed.Ties, tie(perm[x.Chosen], slices.Sorted(slices.Values(called(x.Among, perm)))...))
	}
	return renamed
}

// called returns the names of the parties of a list.
func called(l, perm []int) []int {
	var names []int
	for _, c := range l {
		names = append(names, perm[c])
	}
	return names
}
