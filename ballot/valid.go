package ballot

import (
	"slices"

	"suffrage/api"
)

// isValid reports whether b is valid among cands candidates, which are at most MaxCands.
func isValid(b api.Ballot, cands int) bool {
	switch b.Kind {
	case api.KindMark:
		if !slices.IsSorted(b.Marks) {
			return false
		}
		fallthrough // in order, the marks must be what those of a ranking are
	case api.KindRank:
		return areCandidates(b.Marks, cands)
	case api.KindScore:
		return len(b.Marks) == cands && areScores(b.Marks)
	default:
		return false
	}
}

// isValidAlone reports whether b is valid where no number of candidates is given.
func isValidAlone(b api.Ballot) bool {
	if b.Kind == api.KindScore {
		return Check(b, len(b.Marks)) == api.OK
	}
	return Check(b, api.MaxCands) == api.OK
}

// areCandidates reports whether marks are distinct candidates of cands, which are at most MaxCands.
func areCandidates(marks []int, cands int) bool {
	var seen [api.MaxCands]bool
	for i := range len(marks) {
		c := marks[i]
		if c < 0 || c >= cands || seen[c] {
			return false
		}
		seen[c] = true
	}
	return true
}

func areScores(marks []int) bool {
	for i := range len(marks) {
		if marks[i] < 0 || marks[i] > api.MaxScore {
			return false
		}
	}
	return true
}

func isPermutation(perm []int) bool {
	return 1 <= len(perm) && len(perm) <= api.MaxCands && areCandidates(perm, len(perm))
}
