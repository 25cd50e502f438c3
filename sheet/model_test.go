package sheet_test

import (
	"math/rand"
	"slices"
	"strings"

	"suffrage/api"
	"suffrage/ballot"
	"suffrage/contest"
)

// The model follows the words of the document: the rules and their ballots are the table of chapter 7, written as text; what a box is for follows from counting the boxes; and where a ranking ends is told from all of its ranks at once.

const modelTable = `
plurality, approval, score, borda | marks (at most one), marks, scores, rankings
copeland, minimax, schulze, pairs, runoff, coombs | rankings
gregory, meek, phragmen | rankings, rankings, marks
dhondt, sainte, hare | marks (at most one)
`

// modelBallots returns what the table says of the ballots of a rule, or "" if it is none.
func modelBallots(rule uint8) string {
	l := []string{""}
	for line := range strings.Lines(strings.TrimSpace(modelTable)) {
		columns := strings.Split(strings.TrimSpace(line), " | ")
		ballots := strings.Split(columns[1], ", ")
		for i := range strings.Split(columns[0], ", ") {
			l = append(l, ballots[min(i, len(ballots)-1)])
		}
	}
	if int(rule) >= len(l) {
		return ""
	}
	return l[rule]
}

// rulesOf returns the rules with these ballots.
func rulesOf(ballots string) []uint8 {
	var l []uint8
	for rule := range uint8(255) {
		if rule > 0 && modelBallots(rule) == ballots {
			l = append(l, rule)
		}
	}
	return l
}

// place is what a box is for: a candidate, and a rank or a score, or 0 where candidates are just marked.
type place struct{ cand, column int }

// modelPlaces returns what the boxes of a sheet are for, in the order of their indices.
func modelPlaces(ballots string, n int) []place {
	columns := map[string]int{"rankings": n, "marks": 1, "marks (at most one)": 1, "scores": 11}[ballots]
	var l []place
	for cand := range n {
		for column := range columns {
			l = append(l, place{cand, column})
		}
	}
	return l
}

func modelBoxes(c api.Contest) (int, api.Errno) {
	if e := contest.Check(c); e != api.OK {
		return 0, e
	}
	return len(modelPlaces(modelBallots(c.Rule), len(c.Cands))), api.OK
}

func modelCheck(c api.Contest, s api.Sheet) api.Errno {
	n, e := modelBoxes(c)
	if e != api.OK {
		return e
	}
	if len(s.Boxes) != n || slices.ContainsFunc(s.Boxes, func(value uint8) bool { return value > 100 }) {
		return api.ErrBad
	}
	return api.OK
}

func modelPolicy(p api.Policy) bool {
	return p.Low >= 1 && p.Low <= p.High && p.High <= 100 && p.Skips >= 0 && p.Skips <= 10
}

// modelDoubtful returns the indices of the doubtful boxes, before any decision.
func modelDoubtful(p api.Policy, s api.Sheet) []int {
	var l []int
	for i, value := range s.Boxes {
		if value >= p.Low && value < p.High {
			l = append(l, i)
		}
	}
	return l
}

func modelRead(c api.Contest, p api.Policy, s api.Sheet, l []api.Decision) (api.Reading, api.Errno) {
	if e := modelCheck(c, s); e != api.OK {
		return api.Reading{}, e
	}
	if !modelPolicy(p) {
		return api.Reading{}, api.ErrArg
	}
	if len(l) > len(s.Boxes) {
		return api.Reading{}, api.ErrMany
	}
	doubtful, said := modelDoubtful(p, s), map[int]bool{}
	for _, d := range l {
		if _, twice := said[d.Box]; twice || !slices.Contains(doubtful, d.Box) {
			return api.Reading{}, api.ErrArg
		}
		said[d.Box] = d.Marked
	}
	on, ballots := map[place]bool{}, modelBallots(c.Rule)
	for i, at := range modelPlaces(ballots, len(c.Cands)) {
		if s.Boxes[i] >= p.High || said[i] {
			on[at] = true
		}
	}
	r := modelReading(ballots, len(c.Cands), p.Skips, on)
	for _, i := range doubtful {
		if _, decided := said[i]; !decided {
			r.Doubts = append(r.Doubts, i)
		}
	}
	return r, api.OK
}

// modelReading returns the reading of marked boxes, but for the doubts.
func modelReading(ballots string, n, skips int, on map[place]bool) api.Reading {
	switch ballots {
	case "rankings":
		return modelRanking(n, skips, on)
	case "scores":
		return modelScores(n, on)
	}
	var marks []int
	for c := range n {
		if on[place{c, 0}] {
			marks = append(marks, c)
		}
	}
	if ballots == "marks (at most one)" && len(marks) > 1 {
		return api.Reading{Ballot: api.Ballot{Kind: 2}, Over: 1}
	}
	return api.Reading{Ballot: api.Ballot{Kind: 2, Marks: marks}}
}

func modelScores(n int, on map[place]bool) api.Reading {
	r := api.Reading{Ballot: api.Ballot{Kind: 3}}
	for c := range n {
		sum, boxes := 0, 0
		for score := range 11 {
			if on[place{c, score}] {
				sum, boxes = sum+score, boxes+1
			}
		}
		if boxes > 1 {
			sum, r.Over = 0, r.Over+1
		}
		r.Ballot.Marks = append(r.Ballot.Marks, sum)
	}
	return r
}

// modelRanking reads the ranks ahead of the first one that is overvoted or ends the row of skipped ranks.
func modelRanking(n, skips int, on map[place]bool) api.Reading {
	ranks := make([][]int, n)
	for rank := range n {
		for c := range n {
			if on[place{c, rank}] {
				ranks[rank] = append(ranks[rank], c)
			}
		}
	}
	isOver := func(l []int) bool { return len(l) > 1 }
	isMarked := func(l []int) bool { return len(l) > 0 }
	r := api.Reading{Ballot: api.Ballot{Kind: 1}}
	for rank := range n {
		before := ranks[:rank]
		if slices.ContainsFunc(before, isOver) {
			break
		}
		if skips > 0 && slices.ContainsFunc(runs(before, skips), func(run [][]int) bool { return !slices.ContainsFunc(run, isMarked) }) {
			break
		}
		if isOver(ranks[rank]) {
			r.Over = 1
		} else if isMarked(ranks[rank]) && !slices.Contains(r.Ballot.Marks, ranks[rank][0]) {
			r.Ballot.Marks = append(r.Ballot.Marks, ranks[rank][0])
		}
	}
	return r
}

// runs returns all rows of so many elements that stand side by side in l.
func runs(l [][]int, size int) [][][]int {
	var all [][][]int
	for end := size; end <= len(l); end++ {
		all = append(all, l[end-size:end])
	}
	return all
}

// modelMarks returns the marks of a ballot as places.
func modelMarks(b api.Ballot) []place {
	var l []place
	for i, mark := range b.Marks {
		l = append(l, map[uint8]place{1: {mark, i}, 2: {mark, 0}, 3: {i, mark}}[b.Kind])
	}
	return l
}

func modelFill(c api.Contest, b api.Ballot) (api.Sheet, api.Errno) {
	if e := contest.Check(c); e != api.OK {
		return api.Sheet{}, e
	}
	n, ballots := len(c.Cands), modelBallots(c.Rule)
	kind := map[string]uint8{"rankings": 1, "marks": 2, "marks (at most one)": 2, "scores": 3}[ballots]
	if ballot.Check(b, n) != api.OK || b.Kind != kind || ballots == "marks (at most one)" && len(b.Marks) > 1 {
		return api.Sheet{}, api.ErrBad
	}
	var s api.Sheet
	for _, at := range modelPlaces(ballots, n) {
		value := uint8(0)
		if slices.Contains(modelMarks(b), at) {
			value = 100
		}
		s.Boxes = append(s.Boxes, value)
	}
	return s, api.OK
}

func modelSame(a, b api.Reading) bool {
	return a.Ballot.Kind == b.Ballot.Kind && slices.Equal(a.Ballot.Marks, b.Ballot.Marks) && a.Over == b.Over && slices.Equal(a.Doubts, b.Doubts)
}

// randomPolicy returns a valid policy, often one with few or no doubtful values, or with many.
func randomPolicy(random *rand.Rand) api.Policy {
	low, high := 1+random.Intn(100), 1+random.Intn(100)
	switch random.Intn(4) {
	case 0:
		low = high
	case 1:
		low, high = 1, 100
	}
	return api.Policy{Low: uint8(min(low, high)), High: uint8(max(low, high)), Skips: random.Intn(11)}
}

// valueOf returns a value of a box that is empty (0), doubtful (1) or marked (2); empty if there is no doubtful one.
func valueOf(random *rand.Rand, p api.Policy, state int) uint8 {
	switch {
	case state == 2:
		return p.High + uint8(random.Intn(101-int(p.High)))
	case state == 1 && p.Low < p.High:
		return p.Low + uint8(random.Intn(int(p.High-p.Low)))
	default:
		return uint8(random.Intn(int(p.Low)))
	}
}

// randomSheet returns a sheet of the contest. On some, there is about one marked box for each column, or each candidate; others are fuller or emptier.
func randomSheet(random *rand.Rand, c api.Contest, p api.Policy) api.Sheet {
	places := modelPlaces(modelBallots(c.Rule), len(c.Cands))
	marked, doubtful := []int{1, 3, 20, 80, 150}[random.Intn(5)], []int{0, 1, 20, 100}[random.Intn(4)]
	first := random.Perm(len(c.Cands))
	whole := random.Intn(2) == 0 // as if filled with a ballot
	var s api.Sheet
	for _, at := range places {
		state := 0
		switch n := random.Intn(200); {
		case n < marked/2:
			state = 2
		case n < marked/2+doubtful:
			state = 1
		case whole && first[at.cand] == at.column:
			state = 2
		}
		s.Boxes = append(s.Boxes, valueOf(random, p, state))
	}
	return s
}

// randomDecisions returns decisions about some of the doubtful boxes, in any order.
func randomDecisions(random *rand.Rand, p api.Policy, s api.Sheet) []api.Decision {
	boxes := modelDoubtful(p, s)
	random.Shuffle(len(boxes), func(i, j int) { boxes[i], boxes[j] = boxes[j], boxes[i] })
	var l []api.Decision
	for _, box := range boxes[:random.Intn(len(boxes)+1)] {
		l = append(l, api.Decision{Box: box, Marked: random.Intn(2) == 0})
	}
	return l
}

// randomBallot returns a ballot of the contest's rule.
func randomBallot(random *rand.Rand, c api.Contest) api.Ballot {
	n, ballots := len(c.Cands), modelBallots(c.Rule)
	cands := random.Perm(n)[:random.Intn(n+1)]
	switch ballots {
	case "rankings":
		return api.Ballot{Kind: 1, Marks: cands}
	case "scores":
		b := api.Ballot{Kind: 3}
		for range n {
			b.Marks = append(b.Marks, random.Intn(11))
		}
		return b
	case "marks (at most one)":
		cands = cands[:min(1, len(cands))]
	}
	slices.Sort(cands)
	return api.Ballot{Kind: 2, Marks: cands}
}
