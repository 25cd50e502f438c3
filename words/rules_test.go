package words_test

import (
	"math"
	"slices"
	"strings"
	"testing"
	"unsafe"

	"suffrage/api"
	"suffrage/words"
)

// answer is all that a call returns, in one form for all calls.
type answer struct {
	list []string
	text string
	n    int
	e    api.Errno
}

func (a answer) equal(b answer) bool {
	return slices.Equal(a.list, b.list) && a.text == b.text && a.n == b.n && a.e == b.e
}

func (a answer) twin() answer {
	a.list = slices.Clone(a.list)
	return a
}

// parts returns all strings of an answer.
func (a answer) parts() []string { return append(slices.Clone(a.list), a.text) }

// call is a call whose strings are in rows: one string, one list or a table.
type call struct {
	name string
	rows [][]string
	do   func(rows [][]string) answer
}

func linesCall(rows [][]string) answer {
	l, e := words.Lines(rows[0][0])
	return answer{list: l, e: e}
}

func textCall(rows [][]string) answer {
	s, e := words.Text(rows[0])
	return answer{text: s, e: e}
}

func wordsCall(rows [][]string) answer {
	l, e := words.Words(rows[0][0])
	return answer{list: l, e: e}
}

func lineCall(rows [][]string) answer {
	s, e := words.Line(rows[0])
	return answer{text: s, e: e}
}

func numberCall(rows [][]string) answer {
	n, e := words.Number(rows[0][0])
	return answer{n: n, e: e}
}

func showCall(n int) func([][]string) answer {
	return func([][]string) answer { return answer{text: words.Show(n)} }
}

func tableCall(rows [][]string) answer {
	s, e := words.Table(rows)
	return answer{text: s, e: e}
}

// roomy returns a list of strings of their own memory, with more of them behind its length.
func roomy(l ...string) []string {
	out := make([]string, 0, len(l)+9)
	for _, s := range l {
		out = append(out, strings.Clone(s))
	}
	for _, s := range []string{"behind", " ", "\n", "", "x", "behind", "y", "\x00", "z"} {
		out = append(out, strings.Clone(s))
	}
	return out[:len(l)]
}

// table returns a table of the rows, with more of them behind its length.
func table(rows ...[]string) [][]string {
	out := append(slices.Clone(rows), roomy("behind"), nil, roomy(" "))
	return out[:len(rows)]
}

// calls returns each of the package's calls, with arguments that have room behind them, right and wrong.
func calls() []call {
	long := letters(api.MaxText)
	return []call{
		{"Lines", table(roomy("a b\n\nccc\n")), linesCall},
		{"Lines of one", table(roomy("abc\n")), linesCall},
		{"Lines of nothing", table(roomy("")), linesCall},
		{"Lines of an open end", table(roomy("ab\nc")), linesCall},
		{"Lines of too much", table(roomy(long + "\n")), linesCall},
		{"Text", table(roomy("a b", "", "ccc")), textCall},
		{"Text of one", table(roomy("abc")), textCall},
		{"Text of nothing", table(roomy()), textCall},
		{"Text of a line feed", table(roomy("ab", "c\n")), textCall},
		{"Text of too much", table(roomy("ab", long)), textCall},
		{"Words", table(roomy("abc de f")), wordsCall},
		{"Words of one", table(roomy("abc")), wordsCall},
		{"Words of nothing", table(roomy("")), wordsCall},
		{"Words of two spaces", table(roomy("a  b")), wordsCall},
		{"Words of too much", table(roomy(long + "a")), wordsCall},
		{"Line", table(roomy("abc", "de", "f")), lineCall},
		{"Line of one", table(roomy("abc")), lineCall},
		{"Line of nothing", table(roomy()), lineCall},
		{"Line of no word", table(roomy("a", "", "b")), lineCall},
		{"Line of too much", table(roomy("a", long)), lineCall},
		{"Number", table(roomy("-12345")), numberCall},
		{"Number of no number", table(roomy("12a")), numberCall},
		{"Number of too much", table(roomy("4611686018427387905")), numberCall},
		{"Show", table(roomy("")), showCall(-12345)},
		{"Table", table(roomy("a", "bbb", "c"), roomy("dd", "e"), roomy()), tableCall},
		{"Table of one", table(roomy("abc")), tableCall},
		{"Table of nothing", table(), tableCall},
		{"Table of no word", table(roomy("a", "bbb"), roomy("dd", "e f")), tableCall},
		{"Table of too much", table(roomy("a", "bbb"), roomy("dd", long)), tableCall},
	}
}

// whole returns a copy of all that rows hold, up to the capacities.
func whole(rows [][]string) [][]string {
	out := slices.Clone(rows[:cap(rows)])
	for i, row := range out {
		out[i] = nil
		for _, s := range row[:cap(row)] {
			out[i] = append(out[i], strings.Clone(s))
		}
	}
	return out
}

func sameRows(a, b [][]string) bool {
	return slices.EqualFunc(a, b, func(x, y []string) bool { return slices.Equal(x, y) })
}

// R1

func TestR1ErrorsInOrder(t *testing.T) {
	long := letters(api.MaxText)
	wantLines(t, long+"a", nil, api.ErrMany)
	wantLines(t, strings.Repeat("\n", api.MaxLines+1)+"a", nil, api.ErrMany)
	many := append(make([]string, api.MaxLines), "\n")
	wantTextOf(t, many, "", api.ErrMany)
	wantTextOf(t, append([]string{"a\n"}, many...), "", api.ErrMany)
	wantTextOf(t, []string{"a\n", long}, "", api.ErrMany)
	wantTextOf(t, []string{long, "a\n"}, "", api.ErrMany)
	wantTextOf(t, []string{long[1:] + "\n"}, "", api.ErrMany)
	wantWords(t, long+" ", nil, api.ErrMany)
	wantWords(t, " "+long, nil, api.ErrMany)
	for _, s := range []string{"", " ", "é"} {
		wantLine(t, []string{s, long, "a"}, "", api.ErrForm)
		wantLine(t, []string{long, "a", s}, "", api.ErrForm)
		wantLine(t, []string{long + "a", s}, "", api.ErrForm)
		wantTable(t, [][]string{{s}, {long}}, "", api.ErrForm)
		wantTable(t, [][]string{{long}, {"a"}, {"b", s}}, "", api.ErrForm)
		wantTable(t, append(make([][]string, api.MaxLines), []string{s}), "", api.ErrForm)
		wantTable(t, append([][]string{{s}}, make([][]string, api.MaxLines)...), "", api.ErrForm)
	}
	wantLine(t, []string{long + " "}, "", api.ErrForm)
	wantNumber(t, "99999999999999999999x", 0, api.ErrForm)
	wantNumber(t, "099999999999999999999", 0, api.ErrForm)
	wantNumber(t, "-"+strings.Repeat("9", 1000)+"-", 0, api.ErrForm)
}

func TestR1NothingBesideAnError(t *testing.T) {
	failed := 0
	for _, c := range calls() {
		a := c.do(c.rows)
		if a.e == api.OK {
			continue
		}
		failed++
		if len(a.list) != 0 || a.text != "" || a.n != 0 {
			t.Errorf("%s: %s beside an error", c.name, show(a.parts()))
		}
	}
	if failed != 12 {
		t.Errorf("%d calls failed; want 12", failed)
	}
}

// R2

func TestR2ArgumentsStay(t *testing.T) {
	for _, c := range calls() {
		before := whole(c.rows)
		c.do(c.rows)
		if !sameRows(whole(c.rows), before) {
			t.Errorf("%s changes an argument", c.name)
		}
	}
}

// start returns where the memory of s begins.
func start(s string) uintptr { return uintptr(unsafe.Pointer(unsafe.StringData(s))) }

// overlap reports whether two strings have a byte in common.
func overlap(a, b string) bool {
	return a != "" && b != "" && start(a) < start(b)+uintptr(len(b)) && start(b) < start(a)+uintptr(len(a))
}

func TestR2AnswersShareNothing(t *testing.T) {
	for _, c := range calls() {
		a := c.do(c.rows)
		parts := a.parts()
		for i, part := range parts {
			for _, row := range c.rows {
				for _, s := range row {
					if overlap(part, s) {
						t.Errorf("%s: the answer's %s shares memory with an argument", c.name, show(part))
					}
				}
			}
			for _, other := range parts[:i] {
				if overlap(part, other) {
					t.Errorf("%s: the answer's %s and %s share memory", c.name, show(part), show(other))
				}
			}
		}
	}
}

// A list may hold one string, and a table one row, several times.
func TestR2OneArgumentTwice(t *testing.T) {
	x := strings.Clone("abc")
	wantTextOf(t, []string{x, x[:1], x}, "abc\na\nabc\n", api.OK)
	wantLine(t, []string{x, x[:1], x}, "abc a abc", api.OK)
	row := roomy("a", "bbb", "c")
	wantTable(t, [][]string{row, row[:2], row[1:], row}, "a    bbb  c\na    bbb\nbbb  c\na    bbb  c\n", api.OK)
}

// A second answer depends neither on the first, nor on what became of it, nor on calls between.
func TestR2NothingIsKept(t *testing.T) {
	for _, c := range calls() {
		first := c.do(c.rows)
		want := first.twin()
		for i := range first.list[:cap(first.list)] {
			first.list[:cap(first.list)][i] = "changed"
		}
		for _, d := range calls() {
			d.do(d.rows)
		}
		again := c.do(c.rows)
		if !again.equal(want) {
			t.Errorf("%s: the second answer is %s; want %s", c.name, show(again.parts()), show(want.parts()))
		}
		for i := range first.list[:cap(first.list)] {
			first.list[:cap(first.list)][i] = "changed again"
		}
		if !again.equal(want) {
			t.Errorf("%s: the second answer shares memory with the first", c.name)
		}
	}
}

// R3

func TestR3NilAndEmptyAreEqual(t *testing.T) {
	for _, l := range [][]string{nil, {}} {
		wantTextOf(t, l, "", api.OK)
		wantLine(t, l, "", api.OK)
		wantTable(t, [][]string{l}, "\n", api.OK)
		wantTable(t, [][]string{{"a"}, l, {"b"}}, "a\n\nb\n", api.OK)
	}
	for _, rows := range [][][]string{nil, {}} {
		wantTable(t, rows, "", api.OK)
	}
}

// R4

func TestR4Integers(t *testing.T) {
	for _, word := range []string{"0", "5", "7", "10", "-1", "-12", "4611686018427387904", "-4611686018427387904"} {
		n, e := words.Number(word)
		if e != api.OK || words.Show(n) != word {
			t.Errorf("Number(%q) = %d, %d", word, n, int(e))
		}
	}
	for _, word := range []string{"+5", "007", "-0", "00", "07", "-007", "+0", "-", ""} {
		wantNumber(t, word, 0, api.ErrForm)
	}
	for _, n := range someIntegers() {
		s := words.Show(n)
		digits := strings.TrimPrefix(s, "-")
		if strings.HasPrefix(s, "-") != (n < 0) || digits == "" || digits[0] == '0' && n != 0 || strings.Trim(digits, "0123456789") != "" {
			t.Errorf("Show(%d) = %q", n, s)
		}
	}
}

// R5

func TestR5Order(t *testing.T) {
	var l []string
	for i := range 300 {
		l = append(l, words.Show(i*7919%1000)) // neither sorted nor distinct
	}
	l = append(l, l[:50]...)
	text := strings.Join(l, "\n") + "\n"
	wantTextOf(t, l, text, api.OK)
	wantLines(t, text, l, api.OK)
	wantLine(t, l, lineOf(l...), api.OK)
	wantWords(t, lineOf(l...), l, api.OK)
	var rows [][]string
	for _, s := range l {
		rows = append(rows, []string{s})
	}
	wantTable(t, rows, text, api.OK)
}

// R6

func TestR6NothingOverflows(t *testing.T) {
	for _, word := range []string{
		"18446744073709551616", "18446744073709551617", "18446744073709551621", "-18446744073709551615", // 2^64 and its neighbours
		"9223372036854775807", "9223372036854775808", "-9223372036854775808", "-9223372036854775809",
		"340282366920938463463374607431768211461", "36893488147419103237", "55340232221128654853",
	} {
		wantNumber(t, word, 0, api.ErrGreat)
	}
	for n, want := range map[int]string{math.MinInt64: "-9223372036854775808", math.MaxInt64: "9223372036854775807"} {
		if got := words.Show(n); got != want {
			t.Errorf("Show(%d) = %q", n, got)
		}
	}
	great := strings.Repeat("a", 1<<24)
	wantTextOf(t, repeated(great, api.MaxLines), "", api.ErrMany)
	wantLine(t, repeated(great, 8), "", api.ErrMany)
	wantTable(t, [][]string{repeated(great, 8)}, "", api.ErrMany)
}

// Bytes that are no UTF-8 count one each, in lines and in words.
func TestR6Bytes(t *testing.T) {
	s := strings.Repeat("\xc3", api.MaxText-1)
	wantLines(t, s+"\n", []string{s}, api.OK)
	wantTextOf(t, []string{s}, s+"\n", api.OK)
	wantLines(t, s+"\xa9\n", nil, api.ErrMany)
	wantTextOf(t, []string{s + "\xa9"}, "", api.ErrMany)
	wantWords(t, s+"\xa9", nil, api.ErrForm)
	wantWords(t, s+"\xa9\xa9", nil, api.ErrMany)
}

// R7

// A panic or an endless call would fail the test by itself; one that lays out what is too much, by the memory that it takes.
func TestR7AnyArguments(t *testing.T) {
	great := strings.Repeat("a", 1<<24)
	odd := []string{"", " ", "\n", "-", "a", "a b", "\x00", "\x7f", "\x80", "\xff\xfe", "é", "-9", "9", strings.Repeat(" ", 70000), strings.Repeat("\n", 70000), strings.Repeat("-", 70000), letters(70000)}
	for _, s := range append(odd, great) {
		words.Lines(s)
		words.Words(s)
		words.Number(s)
	}
	for _, l := range append(listsOf(odd, 2), nil, odd, make([]string, 1<<20), repeated("a", 1<<20)) {
		words.Text(l)
		words.Line(l)
		words.Table([][]string{l})
		words.Table([][]string{nil, l, {"a", "b"}, l})
	}
	for _, n := range []int{math.MinInt, math.MinInt + 1, -1, 0, 1, math.MaxInt - 1, math.MaxInt} {
		words.Show(n)
	}
	wantTable(t, append(slices.Repeat([][]string{{"a", "b", "c", "d"}}, api.MaxLines-1), repeated(great, 4)), "", api.ErrMany)
	wantTable(t, slices.Repeat([][]string{repeated("a", 4000)}, 2*api.MaxLines), "", api.ErrMany)
}
