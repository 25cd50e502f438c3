package ballot_test

import (
	"math"
	"math/rand"
	"slices"
	"strconv"
	"strings"
	"testing"

	"suffrage/api"
	"suffrage/ballot"
)

// P8.3: Text

func checkText(t *testing.T, b api.Ballot, want string, wantE api.Errno) {
	t.Helper()
	if s, e := ballot.Text(b); s != want || e != wantE {
		t.Errorf("Text(%s) = %q, %d; want %q, %d", show(b), s, int(e), want, int(wantE))
	}
}

func TestText(t *testing.T) {
	for _, c := range []struct {
		b    api.Ballot
		want string
	}{
		{rank(2, 0, 1), "rank 2 0 1"}, {rank(0, 1), "rank 0 1"}, {rank(), "rank"}, {api.Ballot{Kind: 1, Marks: []int{}}, "rank"}, {rank(9), "rank 9"},
		{rank(9, 8, 7, 6, 5, 4, 3, 2, 1, 0), "rank 9 8 7 6 5 4 3 2 1 0"}, {mark(0, 2), "mark 0 2"}, {mark(), "mark"}, {api.Ballot{Kind: 2, Marks: []int{}}, "mark"},
		{mark(upTo(10)...), "mark 0 1 2 3 4 5 6 7 8 9"}, {score(3, 0, 10), "score 3 0 10"}, {score(0), "score 0"}, {score(10), "score 10"},
		{score(times(10, 10)...), "score 10 10 10 10 10 10 10 10 10 10"}, {score(times(10, 0)...), "score 0 0 0 0 0 0 0 0 0 0"},
	} {
		checkText(t, c.b, c.want, api.OK)
		if b := read(t, c.want); !modelSame(b, c.b) {
			t.Errorf("Read(%q) = %s", c.want, show(b))
		}
	}
}

func TestTextOfInvalidBallots(t *testing.T) {
	for _, b := range []api.Ballot{{}, {Marks: []int{0}}, kind(4), kind(4, 0), kind(255), rank(1, 1), rank(0, 1, 0), rank(10), rank(-1), rank(upTo(11)...), mark(2, 0), mark(1, 1), mark(10), mark(-1),
		mark(upTo(11)...), score(), {Kind: 3, Marks: []int{}}, score(11), score(-1), score(0, 11), score(-1, 0), score(times(11, 0)...), rank(256), score(256), rank(math.MaxInt), mark(math.MinInt),
		score(1<<32 + 1), rank(times(100, 0)...), score(times(1000, 1)...)} {
		checkText(t, b, "", api.ErrBad)
	}
	for k := range 256 {
		if k == 0 || k > 3 {
			checkText(t, kind(uint8(k)), "", api.ErrBad)
			checkText(t, kind(uint8(k), 0), "", api.ErrBad)
		}
	}
}

func TestTextIgnoresCapacity(t *testing.T) {
	marks := []int{2, 1, 1, 99}
	checkText(t, rank(marks[:2]...), "rank 2 1", api.OK)
	checkText(t, score(marks[:3]...), "score 2 1 1", api.OK)
	checkText(t, mark(marks[:0]...), "mark", api.OK)
}

func TestTextOfAnyBallots(t *testing.T) {
	for _, b := range slices.Concat(anyBallots(), validBallots(3), validBallots(4)) {
		want, wantE := modelText(b)
		checkText(t, b, want, wantE)
	}
	random := rand.New(rand.NewSource(91))
	for range 20000 {
		b := randomBallot(random, 1+random.Intn(10))
		checkText(t, b, modelString(b), api.OK)
		b = spoilt(random, b)
		want, wantE := modelText(b)
		checkText(t, b, want, wantE)
	}
}

// P8.3: Read

func checkRead(t *testing.T, s string, want api.Ballot, wantE api.Errno) {
	t.Helper()
	if b, e := ballot.Read(s); e != wantE || !modelSame(b, want) {
		t.Errorf("Read(%.60q) = %s, %d; want %s, %d", s, show(b), int(e), show(want), int(wantE))
	}
}

func checkNoBallot(t *testing.T, s string) {
	t.Helper()
	checkRead(t, s, api.Ballot{}, api.ErrForm)
}

func TestReadOfExamples(t *testing.T) {
	checkRead(t, "rank 2 0 1", rank(2, 0, 1), api.OK)
	checkRead(t, "mark 0 2", mark(0, 2), api.OK)
	checkRead(t, "score 3 0 10", score(3, 0, 10), api.OK)
	checkNoBallot(t, "rank 1 1")
	checkNoBallot(t, "mark 2 0")
	checkNoBallot(t, "score 11")
}

func TestReadOfKindsAlone(t *testing.T) {
	checkRead(t, "rank", rank(), api.OK)
	checkRead(t, "mark", mark(), api.OK)
	checkNoBallot(t, "score")
	for _, s := range []string{"", " ", "  ", "0", "0 1", " 0", "rank ", "mark ", "score ", "rank  ", " rank", " mark", " score", " rank 0", "rank\n", "\nrank", "rank\x00", "\x00rank", "\x00",
		"ran", "mar", "scor", "ank", "core", "r", "Rank", "RANK", "Mark", "Score 1", "SCORE 1", "ranks", "marks 1", "scores 1", "rank0", "rank-1", "rank,0", "rank:", "ranking 0", "approval 0",
		"kind 0", "kind0", "kind4 0", "1 0", "1", "3 0", "rankmark", "rank mark", "rank rank", "rank rank 0", "mark score 0", "rank 0 mark 1", "r\u00e4nk", "rank\u00a00", "\ufeffrank", "rank\t0"} {
		checkNoBallot(t, s)
	}
}

func TestReadOfSpaces(t *testing.T) {
	for _, s := range []string{"rank 2 0 1", "mark 0 2", "score 3 0 10", "rank 0", "score 0"} {
		for _, wrong := range []string{s + " ", s + "  ", " " + s, strings.Replace(s, " ", "  ", 1), strings.ReplaceAll(s, " ", "  "), strings.Replace(s, " ", "", 1), s + "\n", s + "\t", s + "\r\n",
			strings.Replace(s, " ", "\t", 1), strings.Replace(s, " ", "\n", 1), strings.ReplaceAll(s, " ", ","), strings.Replace(s, " ", " , ", 1), strings.Replace(s, " ", "\u00a0", 1), s + "\x00",
			s + " \x00", s + ".", s + " #"} {
			checkNoBallot(t, wrong)
		}
		for at := range len(s) + 1 {
			checkNoBallot(t, s[:at]+"_"+s[at:])
		}
	}
}

// A mark has one form alone.
func TestReadOfNumbers(t *testing.T) {
	words := []string{"00", "01", "010", "007", "+0", "+1", "-0", "-1", "-", "+", "--1", "0x1", "0b1", "0o1", "1.0", "1.", ".1", "1e0", "1e1", "1_0", "0_1", "_1", "1_", "x", "l", "O", "one", "NaN",
		"\u0661", "\u00b2", "\uff11", "11", "12", "20", "100", "255", "256", "257", "65536", "4294967296", "4294967297", "9223372036854775807", "9223372036854775808", "18446744073709551616",
		"18446744073709551617", "-9223372036854775808", "-18446744073709551615", strings.Repeat("0", 100), strings.Repeat("9", 1000), strings.Repeat("0", 1000) + "1",
		"1" + strings.Repeat("0", 1000), "1'", "\"1\"", "1\x00", "1\n", "(1)", "1-", "1+", "'1'", "1,2", "2;"}
	for _, word := range words {
		for _, s := range []string{"rank " + word, "mark " + word, "score " + word, "rank 5 " + word, "rank " + word + " 5", "score 5 " + word, "score " + word + " 5", "mark " + word + " 5", word, word + " 1"} {
			checkNoBallot(t, s)
		}
	}
	for n := range 1200 {
		word := strconv.Itoa(n)
		if n > 9 {
			checkNoBallot(t, "rank "+word)
			checkNoBallot(t, "mark "+word)
		} else {
			checkRead(t, "rank "+word, rank(n), api.OK)
			checkRead(t, "mark "+word, mark(n), api.OK)
		}
		if n > 10 {
			checkNoBallot(t, "score "+word)
		} else {
			checkRead(t, "score "+word, score(n), api.OK)
		}
		checkNoBallot(t, "score -"+word)
		checkNoBallot(t, "score +"+word)
		checkNoBallot(t, "score 0"+word)
	}
}

func TestReadOfStringsOfInvalidBallots(t *testing.T) {
	for _, b := range []api.Ballot{rank(1, 1), rank(0, 1, 0), rank(10), rank(-1), rank(upTo(11)...), mark(2, 0), mark(1, 1), mark(10), mark(-1), mark(upTo(11)...), score(), score(11), score(-1),
		score(0, 11), score(times(11, 0)...), score(times(12, 10)...), rank(math.MaxInt), mark(math.MinInt), rank(times(100, 0)...), kind(0), kind(4, 1), kind(255, 0),
		score(upTo(11)...)} {
		checkNoBallot(t, modelString(b))
	}
}

func TestReadOfManyMarks(t *testing.T) {
	for many := 1; many <= 40; many++ {
		for _, word := range []string{" 0", " 10", " 7"} {
			s := "score" + strings.Repeat(word, many)
			want, wantE := modelRead(s)
			checkRead(t, s, want, wantE)
			if (wantE == api.OK) != (many <= 10) {
				t.Errorf("the model of %q is %v", s, want)
			}
		}
		for _, word := range []string{"rank", "mark"} {
			s := modelString(rank(upTo(many)...))[4:]
			want, wantE := modelRead(word + s)
			checkRead(t, word+s, want, wantE)
			if (wantE == api.OK) != (many <= 10) {
				t.Errorf("the model of %q is %v", word+s, want)
			}
		}
	}
}

func TestReadOfAllSmallBallots(t *testing.T) {
	for _, b := range slices.Concat(anyBallots(), validBallots(3), validBallots(4)) {
		s := modelString(b)
		want, wantE := modelRead(s)
		checkRead(t, s, want, wantE)
		if modelValidAlone(b) && !modelSame(want, b) {
			t.Errorf("the model of %q is %v", s, want)
		}
	}
}

// All strings of up to five of these bytes are put behind the words, and one in between.
func TestReadOfAllShortStrings(t *testing.T) {
	suffixes, seen := []string{""}, map[api.Errno]int{}
	for from := 0; len(suffixes[from]) < 5; from++ {
		for _, c := range " 01-+x" {
			suffixes = append(suffixes, suffixes[from]+string(c))
		}
	}
	for _, suffix := range suffixes {
		for _, word := range []string{"rank", "mark", "score", "score 9"} {
			want, wantE := modelRead(word + suffix)
			checkRead(t, word+suffix, want, wantE)
			seen[wantE]++
		}
		if suffix != "" {
			checkNoBallot(t, suffix)
		}
	}
	if seen[api.OK] < 30 || seen[api.ErrForm] < 1000 {
		t.Errorf("the strings have the errors %v", seen)
	}
}

// Each byte of a string is exchanged for each other one, left out, or has one put before it.
func TestReadOfChangedStrings(t *testing.T) {
	for _, s := range []string{"rank 2 0 1", "mark 0 2", "score 3 0 10", "rank", "score 10"} {
		for at := range len(s) + 1 {
			for b := range 256 {
				l := []string{s[:at] + string([]byte{byte(b)}) + s[at:]}
				if at < len(s) {
					l = append(l, s[:at]+string([]byte{byte(b)})+s[at+1:], s[:at]+s[at+1:])
				}
				for _, changed := range l {
					want, wantE := modelRead(changed)
					checkRead(t, changed, want, wantE)
				}
			}
		}
	}
}

// P8.4: Read and Text

func TestReadUndoesText(t *testing.T) {
	seen := map[string]api.Ballot{}
	undo := func(b api.Ballot) {
		s := text(t, b)
		if again := read(t, s); !ballot.Same(again, b) || !modelSame(again, b) {
			t.Errorf("Read(Text(%s)) = %s", show(b), show(again))
		}
		if other, ok := seen[s]; ok && !modelSame(other, b) {
			t.Errorf("%s and %s have one string", show(other), show(b))
		}
		seen[s] = b
	}
	for n := 1; n <= 4; n++ {
		for _, b := range validBallots(n) {
			undo(b)
		}
	}
	random := rand.New(rand.NewSource(92))
	for range 20000 {
		undo(randomBallot(random, 1+random.Intn(10)))
	}
}

func TestTextUndoesRead(t *testing.T) {
	random := rand.New(rand.NewSource(93))
	valid := 0
	for range 40000 {
		s := modelString(spoilt(random, randomBallot(random, 1+random.Intn(10))))
		at := random.Intn(len(s))
		if random.Intn(4) == 0 {
			s = s[:at] + string(" 0123456789-+"[random.Intn(13)]) + s[at+random.Intn(2):]
		}
		b, e := ballot.Read(s)
		if e != api.OK {
			continue
		}
		valid++
		if again := text(t, b); again != s {
			t.Errorf("Text(Read(%q)) = %q", s, again)
		}
	}
	if valid < 5000 {
		t.Errorf("%d strings are those of ballots", valid)
	}
}
