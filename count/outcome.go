package count

import (
	"slices"

	"suffrage/api"
	"suffrage/ratio"
)

// areBelow reports whether all of l are numbers from 0 to n - 1.
func areBelow(n int, l ...int) bool {
	return !slices.ContainsFunc(l, func(c int) bool { return c < 0 || c >= n })
}

// isAmong reports whether all that o tells is of n candidates.
func isAmong(o api.Outcome, n int) bool {
	for _, r := range o.Rounds {
		if len(r.Had) != n || !areBelow(n, r.Elected...) || !areBelow(n, r.Out...) {
			return false
		}
	}
	for _, t := range o.Ties {
		if !areBelow(n, t.Among...) || !areBelow(n, t.Chosen) {
			return false
		}
	}
	return areBelow(n, o.Elected...)
}

// moved returns the numbers of had, each where perm says for its place. It keeps the numbers.
func moved(had []api.Ratio, perm []int) []api.Ratio {
	l := make([]api.Ratio, len(had))
	for i, x := range had {
		l[perm[i]] = x
	}
	return l
}

func sameRound(r, s api.Round) bool {
	return slices.EqualFunc(r.Had, s.Had, ratio.Same) && ratio.Same(r.Lost, s.Lost) &&
		slices.Equal(r.Elected, s.Elected) && slices.Equal(r.Out, s.Out)
}

func sameTie(t, u api.Tie) bool {
	return slices.Equal(t.Among, u.Among) && t.Chosen == u.Chosen
}

// twins returns a copy of l, in which twin copies each element.
func twins[T any](l []T, twin func(x T) T) []T {
	var copies []T
	for _, x := range l {
		copies = append(copies, twin(x))
	}
	return copies
}

// twinInts returns a copy of l. Of an empty list, slices.Clone would hold on to the memory.
func twinInts(l []int) []int { return append([]int(nil), l...) }

func twinRound(r api.Round) api.Round {
	return api.Round{Had: twins(r.Had, ratio.Twin), Lost: ratio.Twin(r.Lost), Elected: twinInts(r.Elected), Out: twinInts(r.Out)}
}

func twinTie(t api.Tie) api.Tie {
	return api.Tie{Among: twinInts(t.Among), Chosen: t.Chosen}
}
