package ballot

import (
	"strconv"
	"strings"

	"suffrage/api"
)

// The words that strings of ballots begin with.
const (
	wordRank  = "rank"
	wordMark  = "mark"
	wordScore = "score"
)

const space = " "

// Text implements P8.3.
func Text(b api.Ballot) (string, api.Errno) {
	if !isValidAlone(b) {
		return "", api.ErrBad
	}
	s := []byte(wordOf(b.Kind))
	for i := range len(b.Marks) {
		s = append(s, space...)
		s = strconv.AppendInt(s, int64(b.Marks[i]), 10)
	}
	return string(s), api.OK
}

// Read implements P8.3. What parse makes of s counts only if it is valid and s is its string, so parse need not notice a number in another form.
func Read(s string) (api.Ballot, api.Errno) {
	b, ok := parse(s)
	if !ok {
		return api.Ballot{}, api.ErrForm
	}
	if text, e := Text(b); e != api.OK || text != s {
		return api.Ballot{}, api.ErrForm
	}
	return b, api.OK
}

// parse returns the ballot, valid or not, that s expresses, or false if it expresses none.
func parse(s string) (api.Ballot, bool) {
	// No valid ballot has more than MaxCands marks. Where s goes on behind them, the last word is all of the rest, and so no number.
	words := strings.SplitN(s, space, 1+api.MaxCands)
	b := api.Ballot{Kind: kindOf(words[0])}
	for i := range len(words) - 1 {
		mark, err := strconv.Atoi(words[i+1])
		if err != nil {
			return api.Ballot{}, false
		}
		b.Marks = append(b.Marks, mark)
	}
	return b, true
}

// wordOf returns the word of a kind, which is one of the three.
func wordOf(kind uint8) string {
	switch kind {
	case api.KindRank:
		return wordRank
	case api.KindMark:
		return wordMark
	default:
		return wordScore
	}
}

// kindOf returns the kind with a word, or 0, which is no kind, if there is none.
func kindOf(word string) uint8 {
	switch word {
	case wordRank:
		return api.KindRank
	case wordMark:
		return api.KindMark
	case wordScore:
		return api.KindScore
	default:
		return 0
	}
}
