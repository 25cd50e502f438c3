package sheet

import (
	"iter"
	"slices"

	"suffrage/api"
)

const nobody = -1 // no candidate

// paper is a sheet that is read: its boxes are in their final states, so that those that are doubtful remain in doubt.
type paper struct {
	layout
	states []state
	skips  int
}

// reader returns the marks of the ballot on a paper, and the number of overvotes.
type reader func(p paper) (marks []int, over int)

// readerOf returns the reader of papers with ballots of a kind.
func readerOf(kind uint8) reader {
	switch kind {
	case api.KindRank:
		return paper.ranking
	case api.KindScore:
		return paper.scores
	default:
		return paper.approval
	}
}

func (p paper) reading() api.Reading {
	marks, over := readerOf(p.kind)(p)
	return api.Reading{Ballot: api.Ballot{Kind: p.kind, Marks: marks}, Over: over, Doubts: p.doubts()}
}

// approval is the reader of marked candidates.
func (p paper) approval() (marks []int, over int) {
	for c := range p.markedIn(0) {
		marks = append(marks, c)
	}
	if len(marks) > p.most {
		return nil, 1
	}
	return marks, 0
}

// ranking is the reader of rankings.
func (p paper) ranking() (marks []int, over int) {
	skipped := 0 // ranks, in a row
ranks:
	for rank := range p.columns {
		ranked := nobody
		for c := range p.markedIn(rank) {
			if ranked != nobody {
				over = 1
				break ranks
			}
			ranked = c
		}
		if ranked == nobody {
			skipped++
			if skipped == p.skips { // never, if skips is 0
				break ranks
			}
			continue ranks
		}
		skipped = 0
		if !slices.Contains(marks, ranked) {
			marks = append(marks, ranked)
		}
	}
	return marks, over
}

// scores is the reader of scores.
func (p paper) scores() (marks []int, over int) {
	marks = make([]int, p.cands)
	for c := range marks {
		switch scores := p.scoresOf(c); len(scores) {
		case 0:
		case 1:
			marks[c] = scores[0]
		default:
			over++
		}
	}
	return marks, over
}

// markedIn yields the candidates whose boxes in a column are marked.
func (p paper) markedIn(column int) iter.Seq[int] {
	return func(yield func(int) bool) {
		for c := range p.cands {
			if p.states[p.box(c, column)] == marked && !yield(c) {
				return
			}
		}
	}
}

// scoresOf returns the scores whose boxes are marked for a candidate.
func (p paper) scoresOf(cand int) []int {
	var scores []int
	for score := range p.columns {
		if p.states[p.box(cand, score)] == marked {
			scores = append(scores, score)
		}
	}
	return scores
}

// doubts returns the indices of the boxes that remain in doubt.
func (p paper) doubts() []int {
	var boxes []int
	for i, s := range p.states {
		if s == doubtful {
			boxes = append(boxes, i)
		}
	}
	return boxes
}
