package ballot_test

import (
	"encoding/binary"
	"fmt"
	"math/rand"
	"regexp"
	"slices"
	"strconv"
	"strings"

	"suffrage/api"
)

// The model follows the words of the document: which ballots are valid is told by patterns of their strings, sets are maps, and the order is that of byte strings.

// modelString returns the string of a ballot, valid or not. Of other kinds it begins with a word that no ballot has.
func modelString(b api.Ballot) string {
	words := []string{"kind" + strconv.Itoa(int(b.Kind))}
	if b.Kind >= 1 && b.Kind <= 3 {
		words[0] = []string{"rank", "mark", "score"}[b.Kind-1]
	}
	for _, mark := range b.Marks {
		words = append(words, fmt.Sprint(mark))
	}
	return strings.Join(words, " ")
}

// modelNames is the pattern of the strings of rankings and approvals of distinct candidates, and some others.
var modelNames = regexp.MustCompile(`\A(rank|mark)( [0-9])*\z`)

// modelScores has, at n, the pattern of the strings of n scores.
var modelScores = func() (l []*regexp.Regexp) {
	for n := range 11 {
		l = append(l, regexp.MustCompile(`\Ascore( ([0-9]|10)){`+strconv.Itoa(n)+`}\z`))
	}
	return l
}()

// modelValid reports whether b is valid among n candidates, for n from 1 to 10.
func modelValid(b api.Ballot, n int) bool {
	if b.Kind == 3 {
		return modelScores[n].MatchString(modelString(b))
	}
	if !modelNames.MatchString(modelString(b)) {
		return false
	}
	var candidates []int
	for c := range n {
		for _, mark := range b.Marks {
			if mark == c {
				candidates = append(candidates, c)
				break
			}
		}
	}
	if b.Kind == 2 {
		return slices.Equal(candidates, b.Marks)
	}
	return len(candidates) == len(b.Marks)
}

// modelValidAlone reports whether b is valid among MaxCands candidates or, if it is of scores, among as many as it has.
func modelValidAlone(b api.Ballot) bool {
	if b.Kind == 3 {
		return len(b.Marks) >= 1 && len(b.Marks) <= 10 && modelValid(b, len(b.Marks))
	}
	return modelValid(b, 10)
}

func modelCheck(b api.Ballot, n int) api.Errno {
	if n < 1 || n > 10 {
		return api.ErrArg
	}
	if !modelValid(b, n) {
		return api.ErrBad
	}
	return api.OK
}

func modelFirst(b api.Ballot) (int, bool) {
	if !modelValidAlone(b) {
		return 0, false
	}
	switch {
	case b.Kind == 1 && len(b.Marks) >= 1, b.Kind == 2 && len(b.Marks) == 1:
		return b.Marks[0], true
	case b.Kind == 3:
		for c := range b.Marks {
			others := append(slices.Delete(slices.Clone(b.Marks), c, c+1), 0) // a favorite is ahead of 0 too
			if b.Marks[c] > slices.Max(others) {
				return c, true
			}
		}
	}
	return 0, false
}

// modelPlaces returns the index at which each mark of a list occurs first.
func modelPlaces(marks []int) map[int]int {
	places := map[int]int{}
	for i := len(marks) - 1; i >= 0; i-- {
		places[marks[i]] = i
	}
	return places
}

func modelPrefers(b api.Ballot, x, y int) bool {
	if x < 0 || y < 0 {
		return false
	}
	places := modelPlaces(b.Marks)
	i, hasX := places[x]
	j, hasY := places[y]
	switch b.Kind {
	case 1:
		return hasX && (!hasY || i < j)
	case 2:
		return hasX && !hasY
	case 3:
		return x < len(b.Marks) && y < len(b.Marks) && b.Marks[x] > b.Marks[y]
	}
	return false
}

func modelKeep(b api.Ballot, left []bool) api.Ballot {
	isLeft := map[int]bool{}
	for c, yes := range left {
		isLeft[c] = yes
	}
	kept := api.Ballot{Kind: b.Kind, Marks: slices.Clone(b.Marks)}
	switch b.Kind {
	case 1, 2:
		kept.Marks = slices.DeleteFunc(kept.Marks, func(c int) bool { return !isLeft[c] })
	case 3:
		for c := range kept.Marks {
			if !isLeft[c] {
				kept.Marks[c] = 0
			}
		}
	}
	return kept
}

// modelIsPermutation reports whether perm has each of the numbers from 0 to len(perm) - 1, which are 1 to 10 numbers.
func modelIsPermutation(perm []int) bool {
	if len(perm) < 1 || len(perm) > 10 {
		return false
	}
	for i := range perm {
		if !slices.Contains(perm, i) {
			return false
		}
	}
	return true
}

func modelRename(b api.Ballot, perm []int) (api.Ballot, api.Errno) {
	if !modelIsPermutation(perm) {
		return api.Ballot{}, api.ErrArg
	}
	if !modelValid(b, len(perm)) {
		return api.Ballot{}, api.ErrBad
	}
	renamed := api.Ballot{Kind: b.Kind}
	switch b.Kind {
	case 1:
		for _, c := range b.Marks {
			renamed.Marks = append(renamed.Marks, perm[c])
		}
	case 2, 3:
		for name := range perm { // each new name in order, and what candidate has it
			c := slices.Index(perm, name)
			if b.Kind == 3 {
				renamed.Marks = append(renamed.Marks, b.Marks[c])
			} else if slices.Contains(b.Marks, c) {
				renamed.Marks = append(renamed.Marks, name)
			}
		}
	}
	return renamed, api.OK
}

// modelKey returns a byte string for each ballot, such that the byte strings have the order of the ballots.
func modelKey(b api.Ballot) string {
	key := []byte{b.Kind}
	for _, mark := range b.Marks {
		key = binary.BigEndian.AppendUint64(key, uint64(mark)^1<<63) // negative marks before the others
	}
	return string(key)
}

func modelSame(a, b api.Ballot) bool { return modelKey(a) == modelKey(b) }

func modelLess(a, b api.Ballot) bool { return modelKey(a) < modelKey(b) }

func modelText(b api.Ballot) (string, api.Errno) {
	if !modelValidAlone(b) {
		return "", api.ErrBad
	}
	return modelString(b), api.OK
}

// modelNumber is the pattern of the marks of valid ballots.
var modelNumber = regexp.MustCompile(`\A([0-9]|10)\z`)

func modelRead(s string) (api.Ballot, api.Errno) {
	words := strings.Split(s, " ")
	kinds := map[string]uint8{"rank": 1, "mark": 2, "score": 3}
	b := api.Ballot{Kind: kinds[words[0]]}
	for _, word := range words[1:] {
		if !modelNumber.MatchString(word) {
			return api.Ballot{}, api.ErrForm
		}
		mark := strings.Index("0 1 2 3 4 5 6 7 8 9 10", word) / 2
		b.Marks = append(b.Marks, mark)
	}
	if !modelValidAlone(b) {
		return api.Ballot{}, api.ErrForm
	}
	return b, api.OK
}

// modelInverse returns the inverse of a permutation.
func modelInverse(perm []int) []int {
	inverse := make([]int, len(perm))
	for c, name := range perm {
		inverse[name] = c
	}
	return inverse
}

// randomBallot returns a valid ballot among n candidates.
func randomBallot(random *rand.Rand, n int) api.Ballot {
	b := api.Ballot{Kind: uint8(1 + random.Intn(3))}
	if b.Kind == 3 {
		for range n {
			b.Marks = append(b.Marks, random.Intn(1+random.Intn(11)))
		}
		return b
	}
	b.Marks = random.Perm(n)[:random.Intn(n+1)]
	if b.Kind == 2 {
		slices.Sort(b.Marks)
	}
	return b
}

// spoilt returns b with a change, after which it often is not valid.
func spoilt(random *rand.Rand, b api.Ballot) api.Ballot {
	b.Marks = slices.Clone(b.Marks)
	at := random.Intn(len(b.Marks) + 1)
	wild := []int{-1, 0, 1, 9, 10, 11, -11, 255, 256, 257, 1 << 32, 1<<32 + 1, -1 << 63, 1<<63 - 1}[random.Intn(14)]
	switch random.Intn(7) {
	case 0:
		b.Kind = uint8(random.Intn(5))
	case 1:
		b.Kind = uint8(random.Intn(256))
	case 2:
		b.Marks = b.Marks[:at]
	case 3:
		b.Marks = slices.Insert(b.Marks, at, wild)
	case 4:
		b.Marks = slices.Insert(b.Marks, at, random.Intn(11))
	case 5:
		if at < len(b.Marks) {
			b.Marks[at] = wild
		}
	case 6:
		slices.Reverse(b.Marks)
	}
	return b
}
