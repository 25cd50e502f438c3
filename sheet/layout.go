package sheet

import (
	"suffrage/api"
	"suffrage/ballot"
	"suffrage/contest"
)

// layout is where the boxes of a contest's sheets are: in a row for each candidate, one row behind the other. A row has a column for each rank or for each score, or a single one where candidates are just marked.
type layout struct {
	kind    uint8 // of the ballots
	most    int   // marks of a ballot
	cands   int
	columns int
}

// layoutOf returns the layout of the contest's sheets, or the error of contest.Check. It leaves out errors that a valid contest does not have.
func layoutOf(c api.Contest) (layout, api.Errno) {
	if e := contest.Check(c); e != api.OK {
		return layout{}, e
	}
	cands := len(c.Cands)
	kind, _ := contest.Kind(c.Rule)
	most, _ := contest.Most(c.Rule, cands)
	return layout{kind: kind, most: most, cands: cands, columns: columnsOf(kind, cands)}, api.OK
}

func columnsOf(kind uint8, cands int) int {
	switch kind {
	case api.KindRank:
		return cands
	case api.KindScore:
		return api.MaxScore + 1
	default:
		return 1
	}
}

func (l layout) boxes() int { return l.cands * l.columns }

// box returns the index of the box of a candidate in a column.
func (l layout) box(cand, column int) int { return cand*l.columns + column }

// boxOf returns the index of the box that says what mark number i of a ballot says.
func (l layout) boxOf(i, mark int) int {
	switch l.kind {
	case api.KindRank:
		return l.box(mark, i)
	case api.KindScore:
		return l.box(i, mark)
	default:
		return l.box(mark, 0)
	}
}

// holds reports whether a sheet can express b. Valid scores are never more than a ballot may have.
func (l layout) holds(b api.Ballot) bool {
	return b.Kind == l.kind && ballot.Check(b, l.cands) == api.OK && len(b.Marks) <= l.most
}
