package sheet_test

import (
	"fmt"
	"math"
	"slices"
	"strconv"
	"strings"
	"testing"

	"suffrage/api"
	"suffrage/sheet"
)

// many returns n different names.
func many(n int) []string {
	var l []string
	for i := range n {
		l = append(l, "c"+strconv.Itoa(i))
	}
	return l
}

// of returns a contest of n candidates.
func of(rule uint8, n int) api.Contest {
	return api.Contest{Name: "council", Cands: many(n), Seats: 1, Rule: rule}
}

// badContest is a contest that is not valid, and the error of contest.Check.
type badContest struct {
	c api.Contest
	e api.Errno
}

// badContests returns contests that are not valid, by what is wrong with them.
func badContests() map[string]badContest {
	changed := func(rule uint8, n int, change func(c *api.Contest)) api.Contest {
		c := of(rule, n)
		change(&c)
		return c
	}
	return map[string]badContest{
		"nothing":                  {api.Contest{}, api.ErrBad},
		"no candidate":             {of(1, 0), api.ErrBad},
		"no name":                  {changed(2, 3, func(c *api.Contest) { c.Name = "" }), api.ErrBad},
		"a long name":              {changed(3, 3, func(c *api.Contest) { c.Name = strings.Repeat("n", 41) }), api.ErrBad},
		"a blank in a name":        {changed(9, 3, func(c *api.Contest) { c.Cands[1] = "a b" }), api.ErrBad},
		"a name twice":             {changed(9, 3, func(c *api.Contest) { c.Cands[2] = c.Cands[0] }), api.ErrBad},
		"rule 0":                   {of(0, 3), api.ErrBad},
		"rule 17":                  {of(17, 3), api.ErrBad},
		"rule 255":                 {of(255, 3), api.ErrBad},
		"no seat":                  {changed(1, 3, func(c *api.Contest) { c.Seats = 0 }), api.ErrBad},
		"seats -1":                 {changed(4, 3, func(c *api.Contest) { c.Seats = -1 }), api.ErrBad},
		"two seats for one":        {changed(9, 3, func(c *api.Contest) { c.Seats = 2 }), api.ErrBad},
		"more seats than all have": {changed(3, 3, func(c *api.Contest) { c.Seats = 4 }), api.ErrBad},
		"eleven seats":             {changed(14, 3, func(c *api.Contest) { c.Seats = 11 }), api.ErrBad},
		"eleven candidates":        {of(1, 11), api.ErrMany},
		"eleven, ranked":           {of(9, 11), api.ErrMany},
		"eleven, scored":           {of(3, 11), api.ErrMany},
		"eleven and no rule":       {of(0, 11), api.ErrMany},
		"300 candidates":           {of(9, 300), api.ErrMany},
	}
}

// policy returns a policy with the limits of the chapter's example, which those of drawn fit.
func policy(skips int) api.Policy { return api.Policy{Low: 20, High: 60, Skips: skips} }

// drawn returns the sheet that a text draws: . is an empty box, ? a doubtful one, and x a marked one. The boxes of a candidate are a word.
func drawn(text string) api.Sheet {
	values := map[rune]uint8{'.': 0, '?': 30, 'x': 100}
	var s api.Sheet
	for _, r := range strings.ReplaceAll(text, " ", "") {
		s.Boxes = append(s.Boxes, values[r])
	}
	return s
}

// uniform returns a sheet of n boxes of a value.
func uniform(n int, value uint8) api.Sheet { return api.Sheet{Boxes: slices.Repeat([]uint8{value}, n)} }

// with returns s with another value in a box.
func with(s api.Sheet, box int, value uint8) api.Sheet {
	s.Boxes = slices.Clone(s.Boxes)
	s.Boxes[box] = value
	return s
}

// all returns a decision for each box of n, in order.
func all(n int, marked bool) []api.Decision {
	var l []api.Decision
	for i := range n {
		l = append(l, api.Decision{Box: i, Marked: marked})
	}
	return l
}

// wrongPolicies are policies that are not valid.
func wrongPolicies() []api.Policy {
	l := []api.Policy{{}, {Low: 0, High: 60}, {Low: 0, High: 0}, {Low: 61, High: 60}, {Low: 255, High: 60}, {Low: 1, High: 0}, {Low: 20, High: 19},
		{Low: 20, High: 101}, {Low: 20, High: 255}, {Low: 100, High: 101}, {Low: 101, High: 101}, {Low: 255, High: 255}, {Low: 100, High: 99}, {Low: 0, High: 100}}
	for _, skips := range []int{-1, -2, -10, 11, 12, 100, 255, 256, 257, 266, -256, -246, 1 << 32, 1<<32 + 5, math.MaxInt, math.MaxInt - 1, math.MinInt, math.MinInt + 1} {
		l = append(l, policy(skips))
	}
	return l
}

// wrongBoxes are indices that no box of a sheet with n boxes has. The last byte, or the last four, of many of them are those of one.
func wrongBoxes(n int) []int {
	return []int{-1, -2, -n, n, n + 1, 110, 255, 256, 257, 512, 65536, 65537, 1 << 32, 1<<32 + 1, -255, -256, -1 << 32, math.MaxInt, math.MaxInt - 1, math.MinInt, math.MinInt + 1}
}

func checkBoxes(t *testing.T, c api.Contest, want int, wantE api.Errno) {
	t.Helper()
	if n, e := sheet.Boxes(c); n != want || e != wantE {
		t.Errorf("Boxes of rule %d with %d candidates = %d, %d; want %d, %d", c.Rule, len(c.Cands), n, int(e), want, int(wantE))
	}
}

func checkCheck(t *testing.T, c api.Contest, s api.Sheet, want api.Errno) {
	t.Helper()
	if e := sheet.Check(c, s); e != want {
		t.Errorf("Check of rule %d with %d candidates and %d boxes, %s = %d; want %d", c.Rule, len(c.Cands), len(s.Boxes), show(s), int(e), int(want))
	}
}

func checkRead(t *testing.T, c api.Contest, p api.Policy, s api.Sheet, l []api.Decision, want api.Reading, wantE api.Errno) {
	t.Helper()
	if r, e := sheet.Read(c, p, s, l); !modelSame(r, want) || e != wantE {
		t.Errorf("Read of rule %d with %d candidates, %v, %s, %s = %v, %d; want %v, %d", c.Rule, len(c.Cands), p, show(s), showDecisions(l), r, int(e), want, int(wantE))
	}
}

// checkError reports what Read should have refused.
func checkError(t *testing.T, c api.Contest, p api.Policy, s api.Sheet, l []api.Decision, want api.Errno) {
	t.Helper()
	checkRead(t, c, p, s, l, api.Reading{}, want)
}

// checkDrawn reads a drawn sheet without decisions. The contest has as many candidates as the text has words.
func checkDrawn(t *testing.T, rule uint8, skips int, text string, marks []int, over int, doubts ...int) {
	t.Helper()
	checkDecided(t, rule, skips, text, nil, marks, over, doubts...)
}

// checkDecided is checkDrawn with decisions.
func checkDecided(t *testing.T, rule uint8, skips int, text string, l []api.Decision, marks []int, over int, doubts ...int) {
	t.Helper()
	kind := map[string]uint8{"rankings": 1, "marks": 2, "marks (at most one)": 2, "scores": 3}[modelBallots(rule)]
	want := api.Reading{Ballot: api.Ballot{Kind: kind, Marks: marks}, Over: over, Doubts: doubts}
	checkRead(t, of(rule, len(strings.Fields(text))), policy(skips), drawn(text), l, want, api.OK)
}

func checkFill(t *testing.T, c api.Contest, b api.Ballot, want api.Sheet, wantE api.Errno) {
	t.Helper()
	if s, e := sheet.Fill(c, b); !slices.Equal(s.Boxes, want.Boxes) || e != wantE {
		t.Errorf("Fill of rule %d with %d candidates, %v = %s, %d; want %s, %d", c.Rule, len(c.Cands), b, show(s), int(e), show(want), int(wantE))
	}
}

// checkAll holds every call against the model.
func checkAll(t *testing.T, c api.Contest, p api.Policy, s api.Sheet, l []api.Decision, b api.Ballot) {
	t.Helper()
	n, boxesE := modelBoxes(c)
	checkBoxes(t, c, n, boxesE)
	checkCheck(t, c, s, modelCheck(c, s))
	r, readE := modelRead(c, p, s, l)
	checkRead(t, c, p, s, l, r, readE)
	filled, fillE := modelFill(c, b)
	checkFill(t, c, b, filled, fillE)
}

// show returns the start of a text of s, which may be long.
func show(s api.Sheet) string { return fmt.Sprint(s.Boxes[:min(len(s.Boxes), 110)]) }

func showDecisions(l []api.Decision) string { return fmt.Sprint(l[:min(len(l), 20)]) }
