package contest

import "suffrage/api"

// The rules, with the numbers that they have in package api.
const (
	plurality = api.RulePlurality + iota
	approval
	score
	borda
	copeland
	minimax
	schulze
	pairs
	runoff
	coombs
	gregory
	meek
	phragmen
	dhondt
	sainte
	hare
	end // the number behind the last rule
)

// How many seats a rule fills.
const (
	one   = iota // one seat
	some         // a seat a candidate at the most
	lists        // any number of seats, of which a candidate may fill several
)

// properties are what the document's table says of a rule.
type properties struct {
	word    string
	kind    uint8 // of its ballots
	oneMark bool  // whether a ballot has at most one mark
	seats   int   // one, some or lists
}

// rules has nothing at 0, which is not the number of a rule.
var rules = [end]properties{
	plurality: {word: "plurality", kind: api.KindMark, oneMark: true, seats: some},
	approval:  {word: "approval", kind: api.KindMark, seats: some},
	score:     {word: "score", kind: api.KindScore, seats: some},
	borda:     {word: "borda", kind: api.KindRank, seats: some},
	copeland:  {word: "copeland", kind: api.KindRank, seats: one},
	minimax:   {word: "minimax", kind: api.KindRank, seats: one},
	schulze:   {word: "schulze", kind: api.KindRank, seats: one},
	pairs:     {word: "pairs", kind: api.KindRank, seats: one},
	runoff:    {word: "runoff", kind: api.KindRank, seats: one},
	coombs:    {word: "coombs", kind: api.KindRank, seats: one},
	gregory:   {word: "gregory", kind: api.KindRank, seats: some},
	meek:      {word: "meek", kind: api.KindRank, seats: some},
	phragmen:  {word: "phragmen", kind: api.KindMark, seats: some},
	dhondt:    {word: "dhondt", kind: api.KindMark, oneMark: true, seats: lists},
	sainte:    {word: "sainte", kind: api.KindMark, oneMark: true, seats: lists},
	hare:      {word: "hare", kind: api.KindMark, oneMark: true, seats: lists},
}

func isRule(rule uint8) bool { return plurality <= rule && rule < end }

// mostSeats returns the greatest number of seats of a contest of rule, which is a rule, with cands candidates.
func mostSeats(rule uint8, cands int) int {
	switch rules[rule].seats {
	case one:
		return 1
	case some:
		return min(cands, api.MaxSeats)
	default:
		return api.MaxSeats
	}
}
