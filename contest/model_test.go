package contest_test

import (
	"bytes"
	"math/rand"
	"regexp"
	"slices"
	"strings"

	"suffrage/api"
)

// The model follows the words of the document: its table is the document's, written as text, and names are told by a pattern.

const modelTable = `
1, 2, 3, 4 | plurality, approval, score, borda | marks (at most one), marks, scores, rankings | some
5, 6, 7, 8, 9, 10 | copeland, minimax, schulze, pairs, runoff, coombs | rankings | one
11, 12, 13 | gregory, meek, phragmen | rankings, rankings, marks | some
14, 15, 16 | dhondt, sainte, hare | marks (at most one) | lists
`

// modelRule is the rule of some number: what the table's columns say of it.
type modelRule struct{ word, ballots, seats string }

// modelRules returns the rules of the table in their order, so rule 1 is the first.
func modelRules() []modelRule {
	var l []modelRule
	for line := range strings.Lines(strings.TrimSpace(modelTable)) {
		columns := strings.Split(strings.TrimSpace(line), " | ")
		words, ballots := strings.Split(columns[1], ", "), strings.Split(columns[2], ", ")
		for i, word := range words {
			l = append(l, modelRule{word, ballots[min(i, len(ballots)-1)], columns[3]})
		}
	}
	return l
}

// modelRuleOf returns the rule with a number, or nil.
func modelRuleOf(rule uint8) *modelRule {
	l := modelRules()
	if rule == 0 || int(rule) > len(l) {
		return nil
	}
	return &l[rule-1]
}

func modelKind(rule uint8) (uint8, api.Errno) {
	r := modelRuleOf(rule)
	if r == nil {
		return 0, api.ErrArg
	}
	kinds := map[string]uint8{"rankings": 1, "marks": 2, "marks (at most one)": 2, "scores": 3}
	return kinds[r.ballots], api.OK
}

func modelMost(rule uint8, cands int) (int, api.Errno) {
	r := modelRuleOf(rule)
	if r == nil || cands < 1 || cands > 10 {
		return 0, api.ErrArg
	}
	if r.ballots == "marks (at most one)" {
		return 1, api.OK
	}
	return cands, api.OK
}

func modelWord(rule uint8) (string, api.Errno) {
	r := modelRuleOf(rule)
	if r == nil {
		return "", api.ErrArg
	}
	return r.word, api.OK
}

func modelRuleWith(word string) (uint8, api.Errno) {
	for i, r := range modelRules() {
		if r.word == word {
			return uint8(i + 1), api.OK
		}
	}
	return 0, api.ErrNone
}

// modelNames is the pattern of names; ! is byte 33 and ~ is byte 126.
var modelNames = regexp.MustCompile(`\A[!-~]{1,40}\z`)

func modelCheck(c api.Contest) api.Errno {
	if len(c.Cands) > 10 {
		return api.ErrMany
	}
	seen := map[string]bool{}
	for _, name := range c.Cands {
		if !modelNames.MatchString(name) || seen[name] {
			return api.ErrBad
		}
		seen[name] = true
	}
	r := modelRuleOf(c.Rule)
	if !modelNames.MatchString(c.Name) || len(seen) == 0 || r == nil {
		return api.ErrBad
	}
	if c.Seats < 1 || c.Seats > 10 || r.seats == "one" && c.Seats != 1 || r.seats == "some" && c.Seats > len(seen) {
		return api.ErrBad
	}
	return api.OK
}

func modelPlace(c api.Contest, name string) (int, api.Errno) {
	if e := modelCheck(c); e != api.OK {
		return 0, e
	}
	for i, s := range c.Cands {
		if s == name {
			return i, api.OK
		}
	}
	return 0, api.ErrNone
}

// modelField returns a byte string as a field.
func modelField(s string) string {
	return string([]byte{byte(len(s) / 256), byte(len(s) % 256)}) + s
}

// encoded returns the fields of a contest, valid or not; of its seats only the last byte.
func encoded(c api.Contest) []byte {
	s := modelField(c.Name) + modelField(string([]byte{byte(c.Seats), c.Rule}))
	for _, name := range c.Cands {
		s += modelField(name)
	}
	return []byte(s)
}

func modelBytes(c api.Contest) ([]byte, api.Errno) {
	if e := modelCheck(c); e != api.OK {
		return nil, e
	}
	return encoded(c), api.OK
}

// modelSplit returns the byte strings of the fields of which b is the concatenation.
func modelSplit(b []byte) ([]string, api.Errno) {
	if len(b) > 16384 {
		return nil, api.ErrMany
	}
	var l []string
	for len(b) > 0 {
		if len(b) < 2 || len(b) < 2+256*int(b[0])+int(b[1]) {
			return nil, api.ErrShort
		}
		end := 2 + 256*int(b[0]) + int(b[1])
		l = append(l, string(b[2:end]))
		b = b[end:]
	}
	return l, api.OK
}

func modelRead(b []byte) (api.Contest, api.Errno) {
	l, e := modelSplit(b)
	if e != api.OK {
		return api.Contest{}, e
	}
	if len(l) < 2 || len(l[1]) != 2 {
		return api.Contest{}, api.ErrForm
	}
	c := api.Contest{Name: l[0], Cands: l[2:], Seats: int(l[1][0]), Rule: l[1][1]}
	if again, e := modelBytes(c); e != api.OK || !bytes.Equal(again, b) {
		return api.Contest{}, api.ErrForm
	}
	return c, api.OK
}

func modelSame(a, b api.Contest) bool {
	if len(a.Cands) != len(b.Cands) || a.Name != b.Name || a.Seats != b.Seats || a.Rule != b.Rule {
		return false
	}
	for i := range a.Cands {
		if a.Cands[i] != b.Cands[i] {
			return false
		}
	}
	return true
}

// randomName returns a name, of few different ones if short is set.
func randomName(random *rand.Rand, short bool) string {
	size, first, last := 1+random.Intn(40), 33, 126
	if short {
		size, first, last = 1+random.Intn(2), 'a', 'c'
	}
	b := make([]byte, size)
	for i := range b {
		b[i] = byte(first + random.Intn(last-first+1))
	}
	return string(b)
}

// randomContest returns a contest that may be valid, and often is.
func randomContest(random *rand.Rand) api.Contest {
	short := random.Intn(3) == 0
	c := api.Contest{Name: randomName(random, short), Seats: 1, Rule: uint8(1 + random.Intn(16))}
	for range 1 + random.Intn(10) {
		c.Cands = append(c.Cands, randomName(random, short))
	}
	if random.Intn(2) == 0 {
		c.Seats = random.Intn(12)
	}
	return c
}

// spoilt returns c with a change, after which it often is not valid.
func spoilt(random *rand.Rand, c api.Contest) api.Contest {
	c.Cands = slices.Clone(c.Cands)
	at := random.Intn(len(c.Cands))
	names := []string{"", " ", "a b", "a\n", "\x00", "\x7f", "\x80", "\xff", "\u00e9", strings.Repeat("n", 40), strings.Repeat("n", 41), c.Name, "other"}
	switch random.Intn(7) {
	case 0:
		c.Name = names[random.Intn(len(names))]
	case 1:
		c.Cands[at] = names[random.Intn(len(names))]
	case 2:
		c.Cands[at] = c.Cands[random.Intn(len(c.Cands))]
	case 3:
		c.Cands = append(c.Cands, c.Cands[at])
	case 4:
		c.Cands = c.Cands[:at]
	case 5:
		c.Seats = []int{-1, 0, 1, 2, 9, 10, 11, 12, 255, 256, 257, 266}[random.Intn(12)]
	case 6:
		c.Rule = uint8(random.Intn(256))
	}
	return c
}
