package words_test

import (
	"fmt"
	"math"
	"math/big"
	"slices"
	"strconv"
	"strings"
	"testing"

	"suffrage/api"
	"suffrage/words"
)

// show returns a text for a report: its beginning, if it is long.
func show(v any) string {
	s := fmt.Sprintf("%q", v)
	if len(s) > 120 {
		return s[:120] + ".. (" + strconv.Itoa(len(s)) + " bytes)"
	}
	return s
}

// wantList reports a list, or an error, that is not the wanted one. Nil and empty lists are equal.
func wantList(t *testing.T, call string, of any, got []string, e api.Errno, want []string, wantE api.Errno) {
	t.Helper()
	if e != wantE || !slices.Equal(got, want) {
		t.Errorf("%s(%s) = %s, %d; want %s, %d", call, show(of), show(got), int(e), show(want), int(wantE))
	}
}

// wantText does for texts what wantList does for lists.
func wantText(t *testing.T, call string, of any, got string, e api.Errno, want string, wantE api.Errno) {
	t.Helper()
	if e != wantE || got != want {
		t.Errorf("%s(%s) = %s, %d; want %s, %d", call, show(of), show(got), int(e), show(want), int(wantE))
	}
}

func wantLines(t *testing.T, text string, want []string, wantE api.Errno) {
	t.Helper()
	l, e := words.Lines(text)
	wantList(t, "Lines", text, l, e, want, wantE)
}

func wantTextOf(t *testing.T, lines []string, want string, wantE api.Errno) {
	t.Helper()
	s, e := words.Text(lines)
	wantText(t, "Text", lines, s, e, want, wantE)
}

func wantWords(t *testing.T, line string, want []string, wantE api.Errno) {
	t.Helper()
	l, e := words.Words(line)
	wantList(t, "Words", line, l, e, want, wantE)
}

func wantLine(t *testing.T, l []string, want string, wantE api.Errno) {
	t.Helper()
	s, e := words.Line(l)
	wantText(t, "Line", l, s, e, want, wantE)
}

func wantNumber(t *testing.T, word string, want int, wantE api.Errno) {
	t.Helper()
	if n, e := words.Number(word); n != want || e != wantE {
		t.Errorf("Number(%s) = %d, %d; want %d, %d", show(word), n, int(e), want, int(wantE))
	}
}

func wantTable(t *testing.T, rows [][]string, want string, wantE api.Errno) {
	t.Helper()
	s, e := words.Table(rows)
	wantText(t, "Table", rows, s, e, want, wantE)
}

// letters returns n bytes that may stand in a word and differ from their neighbours.
func letters(n int) string {
	b := make([]byte, n)
	for i := range b {
		b[i] = byte(33 + i%94)
	}
	return string(b)
}

// stringsOf returns all strings of at most most of the letters, the shortest first.
func stringsOf(letters string, most int) []string {
	all, level := []string{""}, []string{""}
	for range most {
		var longer []string
		for _, s := range level {
			for i := range len(letters) {
				longer = append(longer, s+letters[i:i+1])
			}
		}
		all, level = append(all, longer...), longer
	}
	return all
}

// listsOf returns all lists of at most most of the elements, the shortest first.
func listsOf[E any](elements []E, most int) [][]E {
	all, level := [][]E{nil}, [][]E{nil}
	for range most {
		var longer [][]E
		for _, l := range level {
			for _, x := range elements {
				longer = append(longer, append(slices.Clone(l), x))
			}
		}
		all, level = append(all, longer...), longer
	}
	return all
}

func repeated(s string, n int) []string { return slices.Repeat([]string{s}, n) }

// P2.1

// texts are texts and their lines.
func texts() map[string][]string {
	return map[string][]string{
		"":                           nil,
		"\n":                         {""},
		"a b\n\n":                    {"a b", ""},
		"a\n":                        {"a"},
		"\na\n":                      {"", "a"},
		"a\nb\nc\n":                  {"a", "b", "c"},
		"\n\n\n":                     {"", "", ""},
		"  a  b  \n \n":              {"  a  b  ", " "},
		"a\r\nb\r\n":                 {"a\r", "b\r"},
		"\x00\x09\x0b\x7f\x80\xff\n": {"\x00\x09\x0b\x7f\x80\xff"},
		"é\u2028ü\u0085\n":           {"é\u2028ü\u0085"},
		"\xff\n\xc3\n":               {"\xff", "\xc3"},
		"a\nb\na\n":                  {"a", "b", "a"},
	}
}

func TestLinesAndText(t *testing.T) {
	for text, lines := range texts() {
		wantLines(t, text, lines, api.OK)
		wantTextOf(t, lines, text, api.OK)
	}
}

func TestLinesRejectsOpenEnds(t *testing.T) {
	for _, text := range []string{"a", " ", "\r", "\x00", "a b", "\na", "a\nb", "a\n\nb", "a\n ", "a\n\r", "\n\n\n\x0b", "a\n\xff", "é"} {
		wantLines(t, text, nil, api.ErrForm)
	}
}

// The bytes of a text that lie behind the end of a string are not part of it.
func TestLinesEndWithTheString(t *testing.T) {
	whole := "a\nb\nc\n"
	wantLines(t, whole[:3], nil, api.ErrForm)
	wantLines(t, whole[:4], []string{"a", "b"}, api.OK)
	wantLines(t, whole[1:4], []string{"", "b"}, api.OK)
}

func TestLinesKeepsToMaxText(t *testing.T) {
	long := letters(api.MaxText)
	wantLines(t, long[1:]+"\n", []string{long[1:]}, api.OK)
	wantLines(t, long+"\n", nil, api.ErrMany)
	wantLines(t, long[9:]+"\nabcdefg\n", []string{long[9:], "abcdefg"}, api.OK)
	wantLines(t, long[9:]+"\nabcdefgh\n", nil, api.ErrMany)
	wantLines(t, long, nil, api.ErrForm)
	wantLines(t, long+"a", nil, api.ErrMany)
	wantLines(t, strings.Repeat("abc\n", 1<<20), nil, api.ErrMany)
}

func TestLinesKeepsToMaxLines(t *testing.T) {
	feeds := strings.Repeat("\n", api.MaxLines)
	wantLines(t, feeds, make([]string, api.MaxLines), api.OK)
	wantLines(t, feeds+"\n", nil, api.ErrMany)
	wantLines(t, feeds+"a", nil, api.ErrForm)
	wantLines(t, feeds+"\na", nil, api.ErrMany)
	wantLines(t, feeds[1:]+"a", nil, api.ErrForm)
	wantLines(t, strings.Repeat("ab\n", api.MaxLines), repeated("ab", api.MaxLines), api.OK)
	wantLines(t, strings.Repeat("ab\n", api.MaxLines+1), nil, api.ErrMany)
	wantLines(t, strings.Repeat("\n", api.MaxText), nil, api.ErrMany)
}

func TestTextRejectsLineFeeds(t *testing.T) {
	for _, l := range [][]string{
		{"\n"}, {"a\n"}, {"\na"}, {"a\nb"}, {"\n\n"}, {"", "\n"}, {"\n", ""}, {"a", "b\n", "c"}, {"a", "b", "c\n"}, {"a\n", "b"},
		append(repeated("a", api.MaxLines-1), "a\n"), // 513 line feeds, but 512 lines
		append([]string{"\n"}, repeated("a", api.MaxLines-1)...),
		{letters(api.MaxText-2) + "\n"}, // a text of MaxText bytes
	} {
		wantTextOf(t, l, "", api.ErrForm)
	}
}

func TestTextKeepsToMaxLines(t *testing.T) {
	wantTextOf(t, make([]string, api.MaxLines), strings.Repeat("\n", api.MaxLines), api.OK)
	wantTextOf(t, make([]string, api.MaxLines+1), "", api.ErrMany)
	wantTextOf(t, repeated("ab", api.MaxLines), strings.Repeat("ab\n", api.MaxLines), api.OK)
	wantTextOf(t, repeated("ab", api.MaxLines+1), "", api.ErrMany)
	wantTextOf(t, make([]string, 1<<20), "", api.ErrMany)
}

func TestTextKeepsToMaxText(t *testing.T) {
	long := letters(api.MaxText)
	wantTextOf(t, []string{long[1:]}, long[1:]+"\n", api.OK)
	wantTextOf(t, []string{long}, "", api.ErrMany)
	wantTextOf(t, []string{long + "a"}, "", api.ErrMany)
	wantTextOf(t, []string{long[2:], ""}, long[2:]+"\n\n", api.OK)
	wantTextOf(t, []string{"", long[2:]}, "\n"+long[2:]+"\n", api.OK)
	wantTextOf(t, []string{long[1:], ""}, "", api.ErrMany)
	wantTextOf(t, []string{long, ""}, "", api.ErrMany)
	wantTextOf(t, []string{"", long[1:]}, "", api.ErrMany)
	wantTextOf(t, []string{long, "a", "b"}, "", api.ErrMany) // what follows would fit again
	wantTextOf(t, []string{strings.Repeat("a", 1<<22), ""}, "", api.ErrMany)
	row := repeated(letters(api.MaxText/api.MaxLines-1), api.MaxLines)
	wantTextOf(t, row, strings.Repeat(row[0]+"\n", api.MaxLines), api.OK)
	row[7] += "a"
	wantTextOf(t, row, "", api.ErrMany)
}

// P2.2

func isWordByte(b int) bool { return 33 <= b && b <= 126 }

// lineOf returns the line of the given words.
func lineOf(l ...string) string { return strings.Join(l, " ") }

func TestWordsAndLine(t *testing.T) {
	for _, l := range [][]string{
		nil, {"a"}, {"a", "b"}, {"a", "b", "c"}, {"vote", "-12", "x=y"}, {"a", "a", "a"}, {"!", "~"}, {"~!", "!~"}, {letters(94)}, {letters(300), "b", letters(200)},
		{"-"}, {"\"", "\\"}, {"%20"},
	} {
		wantWords(t, lineOf(l...), l, api.OK)
		wantLine(t, l, lineOf(l...), api.OK)
	}
}

func TestWordsHaveBytesFrom33To126(t *testing.T) {
	for b := range 256 {
		s := string([]byte{byte(b)})
		for _, word := range []string{s, "a" + s, s + "a", "a" + s + "a", s + s} {
			for _, before := range []string{"", "b "} {
				for _, behind := range []string{"", " b"} {
					if b == 32 {
						continue // a line may have spaces, where a word may not
					}
					l := strings.Split(before+word+behind, " ")
					if isWordByte(b) {
						wantWords(t, before+word+behind, l, api.OK)
						wantLine(t, l, before+word+behind, api.OK)
					} else {
						wantWords(t, before+word+behind, nil, api.ErrForm)
						wantLine(t, l, "", api.ErrForm)
					}
				}
			}
		}
	}
}

func TestWordsRejectsSpaces(t *testing.T) {
	for _, line := range []string{" ", "  ", "   ", " a", "a ", " a ", "a  b", "a   b", "  a", "a  ", " a b", "a b ", "a b  c", "a  b c", "a b  ", "  a b"} {
		wantWords(t, line, nil, api.ErrForm)
	}
	wantWords(t, "a b", []string{"a", "b"}, api.OK)
}

func TestWordsRejectsOtherWhiteSpace(t *testing.T) {
	for _, line := range []string{"\n", "a\n", "a\tb", "a\rb", "a\nb", "a\u00a0b", "a\x00", "a b\n", "\ta", "é", "a é", "\x7f", "\x80", "\xff", "a\x1fb"} {
		wantWords(t, line, nil, api.ErrForm)
	}
}

func TestWordsKeepsToMaxText(t *testing.T) {
	long := letters(api.MaxText)
	wantWords(t, long, []string{long}, api.OK)
	wantWords(t, long+"a", nil, api.ErrMany)
	singles := repeated("a", api.MaxText/2)
	wantWords(t, lineOf(singles...)+"a", append(slices.Clone(singles[1:]), "aa"), api.OK)
	wantWords(t, lineOf(singles...)+" ", nil, api.ErrForm)
	wantWords(t, lineOf(singles...)+" a", nil, api.ErrMany)
	wantWords(t, strings.Repeat(" ", api.MaxText), nil, api.ErrForm)
	wantWords(t, strings.Repeat(" ", api.MaxText+1), nil, api.ErrMany)
	wantWords(t, long+" ", nil, api.ErrMany)
	wantWords(t, long[1:]+" ", nil, api.ErrForm)
	wantWords(t, strings.Repeat("a ", 1<<20), nil, api.ErrMany)
}

func TestLineRejectsWhatIsNoWord(t *testing.T) {
	for _, s := range []string{"", " ", "  ", " a", "a ", "a b", "a  b", "\n", "a\n", "\ta", "\x00", "\x1f", "\x7f", "\x80", "\xff", "é"} {
		for _, l := range [][]string{{s}, {s, "a"}, {"a", s}, {"a", s, "b"}, {s, s}, {"a", "b", "c", s}} {
			wantLine(t, l, "", api.ErrForm)
		}
	}
}

func TestLineKeepsToMaxText(t *testing.T) {
	long := letters(api.MaxText)
	wantLine(t, []string{long}, long, api.OK)
	wantLine(t, []string{long + "a"}, "", api.ErrMany)
	wantLine(t, []string{long[2:], "a"}, long[2:]+" a", api.OK)
	wantLine(t, []string{long[1:], "a"}, "", api.ErrMany)
	wantLine(t, []string{long, "a"}, "", api.ErrMany)
	wantLine(t, []string{"a", long[1:]}, "", api.ErrMany)
	wantLine(t, []string{long + "a", "b"}, "", api.ErrMany) // what follows would fit again
	singles := append(repeated("a", api.MaxText/2-1), "aa")
	wantLine(t, singles, lineOf(singles...), api.OK)
	wantLine(t, append(slices.Clone(singles), "a"), "", api.ErrMany)
	singles[0] = "aa"
	wantLine(t, singles, "", api.ErrMany)
	wantLine(t, repeated("a", 1<<20), "", api.ErrMany)
}

// P2.3

func TestNumber(t *testing.T) {
	for word, n := range map[string]int{
		"0": 0, "1": 1, "9": 9, "-1": -1, "-9": -9, "10": 10, "-10": -10, "-12": -12, "100": 100, "-101": -101, "1234567890": 1234567890, "-9876543210": -9876543210,
		"4611686018427387903": 1<<62 - 1, "-4611686018427387903": 1 - 1<<62, "4611686018427387904": 1 << 62, "-4611686018427387904": -1 << 62,
		"4611686018427387899": 1<<62 - 5, "4000000000000000000": 4e18, "999999999999999999": 1e18 - 1, "-1000000000000000000": -1e18,
	} {
		wantNumber(t, word, n, api.OK)
	}
}

func TestNumberRejectsOtherForms(t *testing.T) {
	zeros := strings.Repeat("0", 30)
	for _, word := range []string{
		"", "-", "+", "--", "-0", "+0", "00", "-00", "000", zeros, "-" + zeros, "07", "-07", "007", "+5", "+-5", "-+5", "--5", "5-", "-5-", "1-2",
		" 5", "5 ", " ", "- 5", "5\n", "1 2", "1_000", "1,000", "1.0", "1.", ".5", "1e3", "0x10", "0b1", "0o7", "a", "a1", "1a", "1/2", "/", ":", "1:", "1/", "\x00", "5\x00", "\xb5", "٣", "５", "−5", "NaN", "inf",
	} {
		wantNumber(t, word, 0, api.ErrForm)
	}
}

func TestNumberOfEachByte(t *testing.T) {
	for b := range 256 {
		s := string([]byte{byte(b)})
		for _, word := range []string{s, "1" + s, s + "1", "1" + s + "1", "-1" + s} {
			n, err := strconv.Atoi(word)
			if err != nil || strconv.Itoa(n) != word {
				wantNumber(t, word, 0, api.ErrForm)
			} else {
				wantNumber(t, word, n, api.OK)
			}
		}
	}
}

// aboveLimit returns numbers that are greater than 2^62, among them those that wrap round to a smaller one.
func aboveLimit() []string {
	var l []string
	for _, shift := range []uint{62, 63, 64, 65, 66, 70, 96, 127, 128, 129, 192, 256, 1000} {
		n := new(big.Int).Lsh(big.NewInt(1), shift)
		for _, d := range []int64{1, 2, 5, 7, 1 << 40} {
			l = append(l, new(big.Int).Add(n, big.NewInt(d)).String())
		}
		if shift > 62 {
			l = append(l, n.String(), new(big.Int).Sub(n, big.NewInt(1)).String())
		}
	}
	for digits := 19; digits < 60; digits++ {
		l = append(l, strings.Repeat("9", digits), "1"+strings.Repeat("0", digits), "5"+strings.Repeat("1", digits-1))
	}
	return append(l, "4611686018427387909", "4611686018427387910", "4700000000000000000", strings.Repeat("9", api.MaxText), strings.Repeat("9", api.MaxText+1), strings.Repeat("9", 1<<20))
}

func TestNumberRejectsGreatNumbers(t *testing.T) {
	for _, s := range aboveLimit() {
		wantNumber(t, s, 0, api.ErrGreat)
		wantNumber(t, "-"+s, 0, api.ErrGreat)
		for _, other := range []string{"0" + s, "+" + s, "--" + s, "-0" + s, s + "-", s + " ", " " + s, s + "a", s + "\n"} {
			wantNumber(t, other, 0, api.ErrForm)
		}
	}
}

func TestNumbersNextToTheLimits(t *testing.T) {
	limit := new(big.Int).Lsh(big.NewInt(1), 62)
	for d := int64(-50); d <= 50; d++ {
		n := new(big.Int).Add(limit, big.NewInt(d))
		if d > 0 {
			wantNumber(t, n.String(), 0, api.ErrGreat)
			wantNumber(t, "-"+n.String(), 0, api.ErrGreat)
			continue
		}
		wantNumber(t, n.String(), 1<<62+int(d), api.OK)
		wantNumber(t, "-"+n.String(), -(1<<62 + int(d)), api.OK)
	}
}

func TestShow(t *testing.T) {
	for n, want := range map[int]string{
		0: "0", 1: "1", 9: "9", 10: "10", 99: "99", 100: "100", 101: "101", 1000: "1000", -1: "-1", -3: "-3", -10: "-10", -12: "-12", -100: "-100", 255: "255", 256: "256", 65536: "65536",
		1 << 32: "4294967296", 1 << 62: "4611686018427387904", -1 << 62: "-4611686018427387904", 1<<62 + 1: "4611686018427387905", -1<<62 - 1: "-4611686018427387905",
		math.MaxInt64: "9223372036854775807", math.MaxInt64 - 1: "9223372036854775806", math.MinInt64: "-9223372036854775808", math.MinInt64 + 1: "-9223372036854775807",
	} {
		if got := words.Show(n); got != want {
			t.Errorf("Show(%d) = %q; want %q", n, got, want)
		}
	}
	for _, n := range someIntegers() {
		if got, want := words.Show(n), big.NewInt(int64(n)).String(); got != want {
			t.Errorf("Show(%d) = %q; want %q", n, got, want)
		}
	}
}

// someIntegers returns integers of all lengths and both signs.
func someIntegers() []int {
	var l []int
	for i := -2000; i <= 2000; i++ {
		l = append(l, i)
	}
	for bit := range 63 {
		n := 1 << bit
		l = append(l, n-1, n, n+1, 1-n, -n, -n-1)
	}
	for n := 1; n <= math.MaxInt64/10; n *= 10 {
		l = append(l, n-1, n, n+1, 1-n, -n, -n-1, 7*n)
	}
	return append(l, math.MaxInt64, math.MinInt64)
}

// P2.4

func TestTable(t *testing.T) {
	for _, c := range []struct {
		rows [][]string
		want string
	}{
		{nil, ""},
		{[][]string{nil}, "\n"},
		{[][]string{{}, nil, {}}, "\n\n\n"},
		{[][]string{{"a"}}, "a\n"},
		{[][]string{{"a", "bbb", "c"}, {"dd", "e"}}, "a   bbb  c\ndd  e\n"},
		{[][]string{{"a", "b"}}, "a  b\n"},
		{[][]string{{"aaa", "b"}, {"c", "d"}}, "aaa  b\nc    d\n"},
		{[][]string{{"c", "d"}, {"aaa", "b"}}, "c    d\naaa  b\n"},
		{[][]string{{"aaaa"}, {"c", "d"}}, "aaaa\nc     d\n"},                                   // the longest word is the last one of its row
		{[][]string{{"c", "d"}, {"aaaa"}}, "c     d\naaaa\n"},                                   // also below
		{[][]string{{"c", "d"}, {"e", "ffff"}, {"g", "h", "i"}}, "c  d\ne  ffff\ng  h     i\n"}, // also in a later column
		{[][]string{{"a", "b", "cc"}, {}, {"d", "ee", "f", "g"}}, "a  b   cc\n\nd  ee  f   g\n"},
		{[][]string{{}, {"a", "b"}, {}, {"cc"}, {}}, "\na   b\n\ncc\n\n"},
		{[][]string{{"a", "bbbbb"}, {"a", "b"}}, "a  bbbbb\na  b\n"}, // the last one is not padded
		{[][]string{{"x", "y", "z"}, {"x", "y", "z"}}, "x  y  z\nx  y  z\n"},
		{[][]string{{"!", "~"}, {"~~", "!"}}, "!   ~\n~~  !\n"},
		{[][]string{{"stage", "6"}, {"a", "0"}, {"b", "1"}}, "stage  6\na      0\nb      1\n"},
	} {
		wantTable(t, c.rows, c.want, api.OK)
	}
}

// plainLayout lays a table out column by column, other than the program.
func plainLayout(rows [][]string) string {
	lines := make([]string, len(rows))
	for column, more := 0, true; more; column++ {
		more = false
		width := 0
		for _, row := range rows {
			if column < len(row) {
				width = max(width, len(row[column]))
			}
		}
		for i, row := range rows {
			if column < len(row) {
				lines[i] += row[column]
			}
			if column+1 < len(row) {
				lines[i] += strings.Repeat(" ", width+2-len(row[column]))
				more = true
			}
		}
	}
	out := ""
	for _, line := range lines {
		out += line + "\n"
	}
	return out
}

// smallTables returns all tables of at most three rows of at most three words of one, two and four bytes.
func smallTables() [][][]string {
	return listsOf(listsOf([]string{"a", "bb", "cccc"}, 3), 3)
}

func TestTableOfSmallTables(t *testing.T) {
	tables := smallTables()
	if len(tables) != 1+40+40*40+40*40*40 {
		t.Fatalf("%d tables", len(tables))
	}
	for _, rows := range tables {
		wantTable(t, rows, plainLayout(rows), api.OK)
	}
}

func TestTableRejectsWhatIsNoWord(t *testing.T) {
	for _, s := range []string{"", " ", " a", "a ", "a b", "\n", "a\n", "\t", "\x00", "\x1f", "\x7f", "\x80", "\xff", "é"} {
		for _, rows := range [][][]string{
			{{s}}, {{"a", s}}, {{s, "a"}}, {{"a", s, "b"}}, {{"a"}, {s}}, {{s}, {"a"}}, {{"a", "b"}, {"c", s}, {"d"}}, {{}, {"c", s}}, {{"a"}, {"b"}, {"c", "d", s}},
		} {
			wantTable(t, rows, "", api.ErrForm)
		}
	}
}

func TestTableHasAllWords(t *testing.T) {
	for b := range 256 {
		s := string([]byte{byte(b)})
		if isWordByte(b) {
			wantTable(t, [][]string{{s, "a" + s}, {s + "a"}}, s+"   a"+s+"\n"+s+"a\n", api.OK)
		} else {
			wantTable(t, [][]string{{s, "a"}, {"a"}}, "", api.ErrForm)
			wantTable(t, [][]string{{"a", "a"}, {"a" + s}}, "", api.ErrForm)
		}
	}
}

func TestTableKeepsToMaxLines(t *testing.T) {
	wantTable(t, make([][]string, api.MaxLines), strings.Repeat("\n", api.MaxLines), api.OK)
	wantTable(t, make([][]string, api.MaxLines+1), "", api.ErrMany)
	wantTable(t, slices.Repeat([][]string{{"a", "b"}}, api.MaxLines), strings.Repeat("a  b\n", api.MaxLines), api.OK)
	wantTable(t, slices.Repeat([][]string{{"a", "b"}}, api.MaxLines+1), "", api.ErrMany)
	wantTable(t, make([][]string, 1<<20), "", api.ErrMany)
}

func TestTableKeepsToMaxText(t *testing.T) {
	long := letters(api.MaxText)
	wantTable(t, [][]string{{long[1:]}}, long[1:]+"\n", api.OK)
	wantTable(t, [][]string{{long}}, "", api.ErrMany)
	wantTable(t, [][]string{{long + "a"}}, "", api.ErrMany)
	wantTable(t, [][]string{{long[4:], "a"}}, long[4:]+"  a\n", api.OK)
	wantTable(t, [][]string{{long[3:], "a"}}, "", api.ErrMany)
	wantTable(t, [][]string{{"a", long[4:]}}, "a  "+long[4:]+"\n", api.OK)
	wantTable(t, [][]string{{"a", long[3:]}}, "", api.ErrMany)
	wantTable(t, [][]string{{long[2:]}, {}}, long[2:]+"\n\n", api.OK)
	wantTable(t, [][]string{{long[1:]}, {}}, "", api.ErrMany)
	wantTable(t, [][]string{{}, {long[1:]}}, "", api.ErrMany)
	wantTable(t, [][]string{{long, "a"}, {"b"}}, "", api.ErrMany) // what follows would fit again
	wantTable(t, [][]string{{long, "a"}}, "", api.ErrMany)
	wantTable(t, [][]string{repeated("a", 1<<20)}, "", api.ErrMany)
}

// The spaces count as well as the words: two rows, the second of which gets its spaces from the first.
func TestTableCountsSpaces(t *testing.T) {
	half := api.MaxText/2 - 2
	rows := [][]string{{letters(half)}, {"a", "b"}}
	want := rows[0][0] + "\na" + strings.Repeat(" ", half+1) + "b\n"
	if len(want) != api.MaxText+1 {
		t.Fatalf("the layout has %d bytes", len(want))
	}
	wantTable(t, rows, "", api.ErrMany)
	rows[0][0] = rows[0][0][1:]
	want = rows[0][0] + "\na" + strings.Repeat(" ", half) + "b\n"
	wantTable(t, rows, want, api.OK)
	rows = append(rows, []string{"c"})
	wantTable(t, rows, "", api.ErrMany)
	spread := append([][]string{{letters(api.MaxText / 16)}}, slices.Repeat([][]string{{"a", "b"}}, 20)...)
	wantTable(t, spread, "", api.ErrMany)
	wantTable(t, spread[:13], plainLayout(spread[:13]), api.OK)
}

// A text of exactly MaxText bytes that has spaces in several rows.
func TestTableOfMaxText(t *testing.T) {
	for spare := range 8 {
		rows := slices.Repeat([][]string{{"ab", "cd"}}, api.MaxLines)
		rows[100] = []string{"wwwwwwwwwwwwwwwwwwwwwwwww", "cd"} // 512 lines of 25 + 2 + 2 + 1 bytes
		rest := api.MaxText - len(plainLayout(rows)) - spare + 4
		rows[200] = []string{"ab", "cd" + strings.Repeat("x", rest-4)}
		want := plainLayout(rows)
		if len(want) != api.MaxText-spare {
			t.Fatalf("the layout has %d bytes", len(want))
		}
		wantTable(t, rows, want, api.OK)
		rows[300] = []string{"ab", "cd" + strings.Repeat("x", spare)}
		wantTable(t, rows, plainLayout(rows), api.OK)
		rows[300][1] += "x"
		wantTable(t, rows, "", api.ErrMany)
	}
}

// P2.5

func TestLinesInvertsText(t *testing.T) {
	for _, l := range listsOf(stringsOf("a \x00", 2), 3) {
		text, e := words.Text(l)
		if e != api.OK {
			t.Fatalf("Text(%q): error %d", l, int(e))
		}
		wantLines(t, text, l, api.OK)
	}
}

func TestTextInvertsLines(t *testing.T) {
	for _, text := range stringsOf("a\n \r", 6) {
		if text != "" && !strings.HasSuffix(text, "\n") {
			wantLines(t, text, nil, api.ErrForm)
			continue
		}
		lines, e := words.Lines(text)
		if e != api.OK || len(lines) != strings.Count(text, "\n") {
			t.Fatalf("Lines(%q) = %q, %d", text, lines, int(e))
		}
		wantTextOf(t, lines, text, api.OK)
	}
}

func TestWordsInvertsLine(t *testing.T) {
	for _, l := range listsOf(stringsOf("a~", 2)[1:], 4) {
		line, e := words.Line(l)
		if e != api.OK {
			t.Fatalf("Line(%q): error %d", l, int(e))
		}
		wantWords(t, line, l, api.OK)
	}
}

// isLineOfWords is a second reading of the definition, by bytes and their neighbours.
func isLineOfWords(line string) bool {
	for i := range len(line) {
		edge := i == 0 || i == len(line)-1
		if line[i] == ' ' && (edge || line[i+1] == ' ') || line[i] != ' ' && !isWordByte(int(line[i])) {
			return false
		}
	}
	return true
}

func TestLineInvertsWords(t *testing.T) {
	for _, line := range stringsOf(" a~\x7f\n", 6) {
		if !isLineOfWords(line) {
			wantWords(t, line, nil, api.ErrForm)
			continue
		}
		l, e := words.Words(line)
		if e != api.OK {
			t.Fatalf("Words(%q): error %d", line, int(e))
		}
		wantLine(t, l, line, api.OK)
	}
}

func TestNumberInvertsShow(t *testing.T) {
	for _, n := range someIntegers() {
		if -1<<62 <= n && n <= 1<<62 {
			wantNumber(t, words.Show(n), n, api.OK)
		} else {
			wantNumber(t, words.Show(n), 0, api.ErrGreat)
		}
	}
}

func TestShowInvertsNumber(t *testing.T) {
	numbers := 0
	for _, word := range stringsOf("-+0179 x", 5) {
		n, err := strconv.Atoi(word)
		if err != nil || strconv.Itoa(n) != word {
			wantNumber(t, word, 0, api.ErrForm)
			continue
		}
		numbers++
		wantNumber(t, word, n, api.OK)
		if got := words.Show(n); got != word {
			t.Errorf("Show(%d) = %q; want %q", n, got, word)
		}
	}
	if numbers != 1+2*(3+3*4+3*4*4+3*4*4*4)+3*4*4*4*4 {
		t.Errorf("%d numbers", numbers)
	}
}

func TestTableContainsTheWords(t *testing.T) {
	for _, rows := range smallTables() {
		table, e := words.Table(rows)
		if e != api.OK {
			t.Fatalf("Table(%q): error %d", rows, int(e))
		}
		lines, e := words.Lines(table)
		if e != api.OK || len(lines) != len(rows) {
			t.Fatalf("Lines of Table(%q) = %q, %d", rows, lines, int(e))
		}
		for i, line := range lines {
			if !slices.Equal(strings.Fields(line), rows[i]) {
				t.Fatalf("line %d of Table(%q) is %q", i, rows, line)
			}
		}
	}
}
