package profile

import (
	"suffrage/api"
	"suffrage/ballot"
)

// checkRows returns ErrBad unless the rows of p, whose parameters are right, hold valid ballots in order, and at least one of each.
func checkRows(p api.Profile) api.Errno {
	_, e := fold(p.Rows, 0, func(i int, row api.Row) (int, api.Errno) {
		b := ballotOf(p.Kind, row)
		if row.Many < 1 || ballot.Check(b, p.Cands) != api.OK {
			return 0, api.ErrBad
		}
		if i > 0 && !ballot.Less(ballotOf(p.Kind, p.Rows[i-1]), b) {
			return 0, api.ErrBad
		}
		return i + 1, api.OK
	})
	return e
}

// checkLimits returns the error of rows that are too many or that hold too many ballots.
func checkLimits(rows []api.Row) api.Errno {
	if len(rows) > api.MaxRows {
		return api.ErrFull
	}
	if total(rows) > api.MaxMany {
		return api.ErrMany
	}
	return api.OK
}

// checkBallot returns ErrBad unless b can be in p, whose parameters are right.
func checkBallot(p api.Profile, b api.Ballot) api.Errno {
	if b.Kind != p.Kind || ballot.Check(b, p.Cands) != api.OK {
		return api.ErrBad
	}
	return api.OK
}

// checkChange returns the error of a request to add many ballots b to p, or to remove them from it.
func checkChange(p api.Profile, b api.Ballot, many int) api.Errno {
	if e := Check(p); e != api.OK {
		return e
	}
	if e := checkBallot(p, b); e != api.OK {
		return e
	}
	if many < 1 {
		return api.ErrArg
	}
	return api.OK
}

// checkBoth returns the error of p, that of q, or ErrBad if they differ in what their ballots are.
func checkBoth(p, q api.Profile) api.Errno {
	if e := Check(p); e != api.OK {
		return e
	}
	if e := Check(q); e != api.OK {
		return e
	}
	if p.Cands != q.Cands || p.Kind != q.Kind {
		return api.ErrBad
	}
	return api.OK
}

func isKind(kind uint8) bool {
	return kind == api.KindRank || kind == api.KindMark || kind == api.KindScore
}

// isPermutation reports whether perm has each of cands candidates once, that is, whether it is a ranking of all of them.
func isPermutation(perm []int, cands int) bool {
	return len(perm) == cands && ballot.Check(api.Ballot{Kind: api.KindRank, Marks: perm}, cands) == api.OK
}
