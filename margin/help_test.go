package margin_test

import (
	"fmt"
	"math"
	"math/rand"
	"slices"
	"strings"
	"testing"

	"suffrage/api"
	"suffrage/margin"
	"suffrage/profile"
)

const million = 1_000_000

// Lists of candidates

// upTo returns the numbers from 0 to n - 1.
func upTo(n int) []int {
	var l []int
	for i := range n {
		l = append(l, i)
	}
	return l
}

// downFrom returns the numbers from n - 1 to 0.
func downFrom(n int) []int { return reversed(upTo(n)) }

func reversed(l []int) []int {
	l = slices.Clone(l)
	slices.Reverse(l)
	return l
}

// inOrder returns the list in ascending order.
func inOrder(l []int) []int { return slices.Sorted(slices.Values(l)) }

// without returns the list without its element at the index.
func without(l []int, at int) []int { return slices.Delete(slices.Clone(l), at, at+1) }

// lots returns all permutations of n candidates.
func lots(n int) [][]int {
	if n == 0 {
		return [][]int{nil}
	}
	var all [][]int
	for _, l := range lots(n - 1) {
		for at := range n {
			all = append(all, slices.Insert(slices.Clone(l), at, n-1))
		}
	}
	return all
}

// called returns the names of the candidates of a list.
func called(l, perm []int) []int {
	var names []int
	for _, c := range l {
		names = append(names, perm[c])
	}
	return names
}

// wilds are numbers that are at a limit or beyond one.
func wilds() []int {
	return []int{math.MinInt, math.MinInt + 1, -1 << 62, -1 << 32, -million, -11, -10, -2, -1, 0, 1, 2, 3, 9, 10, 11, 12, 255, 256, 257, million - 1, million, million + 1, 1 << 31, 1<<32 - 1, 1 << 32, 1<<32 + 1, 1 << 62, math.MaxInt - 1, math.MaxInt}
}

func randomWild(random *rand.Rand) int { return wilds()[random.Intn(len(wilds()))] }

// noCandidates are numbers that are none of so many candidates.
func noCandidates(cands int) []int {
	l := append(wilds(), cands, cands+1, cands+1<<8, cands+1<<32, cands-1<<32, -cands, ^cands)
	return slices.DeleteFunc(l, func(c int) bool { return c >= 0 && c < cands })
}

// wrongPerms are lists of at least one number that are no permutations.
func wrongPerms(n int) [][]int {
	wrong := [][]int{append(upTo(n), 0), append(upTo(n), n+1), append([]int{n - 1}, upTo(n)...), make([]int, n+1), upTo(n + 1)[1:], slices.Repeat([]int{n}, n)}
	for _, c := range noCandidates(n) {
		wrong = append(wrong, append(upTo(n-1), c), append([]int{c}, upTo(n)[1:]...))
	}
	for at := 1; at < n; at++ {
		twice := upTo(n)
		twice[at] = at - 1
		wrong = append(wrong, twice, reversed(twice))
	}
	return wrong
}

// wrongLots are no permutations of so many candidates.
func wrongLots(cands int) [][]int {
	return append(wrongPerms(cands), nil, []int{}, upTo(cands-1), upTo(cands)[1:], upTo(cands+1), downFrom(cands+1), downFrom(cands-1), upTo(200))
}

// Contests

// namesOf returns n different names.
func namesOf(n int) []string {
	var l []string
	for i := range n {
		l = append(l, fmt.Sprintf("cand%d", i))
	}
	return l
}

// contestOf returns a contest.
func contestOf(rule uint8, cands, seats int) api.Contest {
	return api.Contest{Name: "council", Cands: namesOf(cands), Seats: seats, Rule: rule}
}

// ruleNumbers returns the numbers of all rules.
func ruleNumbers() []uint8 { return []uint8{1, 2, 3, 4, 5, 6, 7, 8, 9, 10, 11, 12, 13, 14, 15, 16} }

// rulesOf returns the rules that count ballots of the kind.
func rulesOf(kind uint8) []uint8 {
	return slices.DeleteFunc(ruleNumbers(), func(rule uint8) bool { return kindOf(rule) != kind })
}

// kindOf returns the kind of the ballots of a rule, as the chapter of layer 7 has it.
func kindOf(rule uint8) uint8 {
	return []uint8{0, 2, 2, 3, 1, 1, 1, 1, 1, 1, 1, 1, 1, 2, 2, 2, 2}[rule]
}

// mostSeats returns how many seats a contest of so many candidates has at the most.
func mostSeats(rule uint8, cands int) int {
	switch {
	case rule >= 5 && rule <= 10:
		return 1
	case rule >= 14:
		return 10
	}
	return cands
}

// wrongContests returns, for each error of contest.Check, contests of a rule that have it.
func wrongContests(rule uint8) map[api.Errno][]api.Contest {
	right := contestOf(rule, 2, 1)
	wrong := map[api.Errno][]api.Contest{api.ErrMany: {contestOf(rule, 11, 1), contestOf(rule, 12, 1), contestOf(rule, 300, 1), {Cands: make([]string, 11)}, {Name: "a", Cands: make([]string, 11), Seats: 1, Rule: rule}, contestOf(17, 11, 0)}}
	bad := func(change func(c *api.Contest)) {
		c := right
		c.Cands = slices.Clone(c.Cands)
		change(&c)
		wrong[api.ErrBad] = append(wrong[api.ErrBad], c)
	}
	for _, name := range []string{"", " ", "a b", "a\n", "\x00", "\x7f", "\x80", "é", strings.Repeat("a", 41), strings.Repeat("a", 4000)} {
		bad(func(c *api.Contest) { c.Name = name })
		bad(func(c *api.Contest) { c.Cands[0] = name })
		bad(func(c *api.Contest) { c.Cands[1] = name })
	}
	for _, seats := range []int{0, -1, mostSeats(rule, 2) + 1, 11, 256 + 1, 1<<32 + 1, math.MaxInt, math.MinInt, math.MinInt + 1} {
		bad(func(c *api.Contest) { c.Seats = seats })
	}
	for _, number := range []uint8{0, 17, 18, 32, 255} {
		bad(func(c *api.Contest) { c.Rule = number })
	}
	bad(func(c *api.Contest) { c.Cands[1] = c.Cands[0] })
	bad(func(c *api.Contest) { c.Cands = nil })
	bad(func(c *api.Contest) { *c = api.Contest{} })
	return wrong
}

// Profiles

func row(many int, marks ...int) api.Row { return api.Row{Marks: marks, Many: many} }

// of returns a profile with rows, valid or not.
func of(cands int, kind uint8, rows ...api.Row) api.Profile {
	return api.Profile{Cands: cands, Kind: kind, Rows: rows}
}

// inRows is like of, with the rows in order.
func inRows(cands int, kind uint8, rows ...api.Row) api.Profile {
	slices.SortStableFunc(rows, func(r, s api.Row) int { return slices.Compare(r.Marks, s.Marks) })
	return of(cands, kind, rows...)
}

// someBallots returns a profile of the kind that has a few ballots of each sort.
func someBallots(cands int, kind uint8) api.Profile {
	if kind == 3 {
		first := make([]int, cands)
		first[0] = 3
		return inRows(cands, kind, row(2, slices.Repeat([]int{1}, cands)...), row(3, first...))
	}
	if cands == 1 {
		return of(1, kind, row(1), row(2, 0))
	}
	return inRows(cands, kind, row(1), row(2, upTo(cands)...), row(3, cands-1))
}

// fullProfile returns a profile with as many rows and as many ballots as the limits allow.
func fullProfile(kind uint8) api.Profile {
	p := of(10, kind)
	for i := range 64 {
		marks := []int{i / 8, 9 - i%8}
		switch kind {
		case 1:
			if marks[0] == marks[1] {
				marks = marks[:1]
			}
		case 2: // the candidates alone, and two or three of them
			marks = slices.DeleteFunc(upTo(10), func(c int) bool { return c != i%10 && c != (i+i/20)%10 && c != (i+i/10)%10 })
		case 3:
			marks = []int{0, 10, 5, 0, 0, 0, i / 8, i % 8, 7, 10}
		}
		p.Rows = append(p.Rows, row(15625, marks...))
	}
	slices.SortFunc(p.Rows, func(r, s api.Row) int { return slices.Compare(r.Marks, s.Marks) })
	return p
}

// randomMarks returns the marks of a valid ballot.
func randomMarks(random *rand.Rand, cands int, kind uint8) []int {
	switch kind {
	case 1:
		return random.Perm(cands)[:random.Intn(cands+1)]
	case 2:
		if random.Intn(2) == 0 {
			return []int{random.Intn(cands)}
		}
		return inOrder(random.Perm(cands)[:random.Intn(cands+1)])
	}
	scores := make([]int, cands)
	for i := range scores {
		scores[i] = random.Intn(11)
	}
	return scores
}

// randomProfile returns a valid profile, often such in which candidates are level: ballots have their like with candidates exchanged.
func randomProfile(random *rand.Rand, cands int, kind uint8) api.Profile {
	p := of(cands, kind)
	most := []int{1, 3, 12, 1000}[random.Intn(4)]
	turn := random.Perm(cands)
	turns := 1 + random.Intn(3)
	for range random.Intn([]int{3, 6, 15}[random.Intn(3)] + 1) {
		one := inRows(cands, kind, row(1+random.Intn(most), randomMarks(random, cands, kind)...))
		for range turns {
			p, _ = profile.Sum(p, one)
			one, _ = profile.Rename(one, turn)
		}
	}
	return p
}

// ballots returns all valid marks of ballots of the kind: for scores, such of 0, 1 and 3.
func ballots(cands int, kind uint8) [][]int {
	var all [][]int
	for bits := range 1 << cands {
		set := slices.DeleteFunc(upTo(cands), func(c int) bool { return bits>>c&1 == 0 })
		if kind == 2 {
			all = append(all, set)
			continue
		}
		for _, order := range lots(len(set)) {
			all = append(all, called(order, set))
		}
	}
	if kind == 3 {
		all = [][]int{nil}
		for range cands {
			var longer [][]int
			for _, l := range all {
				for _, score := range []int{0, 1, 3} {
					longer = append(longer, append(slices.Clone(l), score))
				}
			}
			all = longer
		}
	}
	return all
}

// smallProfiles returns all profiles of at most so many ballots; of scores, such of 0, 1 and 3.
func smallProfiles(cands int, kind uint8, most int) []api.Profile {
	all := []api.Profile{of(cands, kind)}
	type part struct {
		p    api.Profile
		next int
	}
	parts := []part{{all[0], 0}}
	for range most {
		var more []part
		for _, x := range parts {
			for i, marks := range ballots(cands, kind) {
				if i < x.next {
					continue
				}
				p, _ := profile.Add(x.p, api.Ballot{Kind: kind, Marks: marks}, 1)
				more = append(more, part{p, i})
				all = append(all, p)
			}
		}
		parts = more
	}
	return all
}

// spread returns a profile, for a rule, of a few rows of many ballots each.
func spread(random *rand.Rand, rule uint8) api.Profile {
	cands := 2 + random.Intn(5)
	p := of(cands, kindOf(rule))
	for range 3 + random.Intn(8) {
		p, _ = profile.Add(p, api.Ballot{Kind: p.Kind, Marks: randomMarks(random, cands, p.Kind)}, 1+random.Intn(500))
	}
	return p
}

// spoilt returns p with a change, after which it often is not valid.
func spoilt(random *rand.Rand, p api.Profile) api.Profile {
	p = profile.Twin(p)
	wild := randomWild(random)
	if len(p.Rows) == 0 {
		p.Rows = []api.Row{{Many: wild}}
	}
	at, other := random.Intn(len(p.Rows)), random.Intn(len(p.Rows))
	switch random.Intn(7) {
	case 0:
		p.Cands = wild
	case 1:
		p.Kind = uint8(random.Intn(5))
	case 2:
		p.Rows[at].Many = wild
	case 3:
		p.Rows[at].Marks = append(p.Rows[at].Marks, wild)
	case 4:
		p.Rows[at], p.Rows[other] = p.Rows[other], p.Rows[at]
	case 5:
		p.Rows = append(p.Rows, make([]api.Row, random.Intn(99))...)
	case 6:
		p.Cands = random.Intn(11)
	}
	return p
}

// spoiltList returns a list of candidates with a change, after which it often has something twice, or something that is no candidate.
func spoiltList(random *rand.Rand, l []int) []int {
	l = slices.Clone(l)
	switch random.Intn(3) {
	case 0:
		if len(l) > 0 {
			l[random.Intn(len(l))] = randomWild(random)
		}
	case 1:
		l = l[:random.Intn(len(l)+1)]
	case 2:
		l = append(l, randomWild(random))
	}
	return l
}

// spoiltContest returns c with a change, after which it often is not valid.
func spoiltContest(random *rand.Rand, c api.Contest) api.Contest {
	c.Cands = slices.Clone(c.Cands)
	switch random.Intn(5) {
	case 0:
		c.Name = strings.Repeat("a", random.Intn(50))
	case 1:
		c.Cands = namesOf(random.Intn(13))
	case 2:
		c.Cands[random.Intn(len(c.Cands))] = []string{"", "cand0", "cand 0"}[random.Intn(3)]
	case 3:
		c.Seats = randomWild(random)
	case 4:
		c.Rule = uint8(random.Intn(20))
	}
	return c
}

// wrongProfiles returns, for each error of profile.Check, profiles that have it: of the kind, among two candidates, and others.
func wrongProfiles(kind uint8) map[api.Errno][]api.Profile {
	rows := someBallots(2, kind).Rows
	first, second := rows[0], rows[1]
	great := func(r api.Row, many int) api.Row { return api.Row{Marks: r.Marks, Many: many} }
	two := func(rows ...api.Row) api.Profile { return of(2, kind, rows...) }
	wrong := map[api.Errno][]api.Profile{
		api.ErrFull: {two(make([]api.Row, 65)...), two(slices.Repeat([]api.Row{first, second}, 33)...), of(0, 9, make([]api.Row, 65)...), of(10, kind, append(fullProfile(kind).Rows, row(1, 9, 10))...)},
		api.ErrMany: {two(great(first, million+1)), two(first, great(second, million)), two(great(first, math.MaxInt), second), two(great(first, math.MaxInt), great(second, math.MaxInt)), two(first, great(second, 1<<32)), of(2, 1, row(million+1, 1)), of(2, 2, row(million+1))},
		api.ErrBad: {{}, of(2, 0), of(2, 4), of(2, 255), two(second, first), two(first, first), two(row(1, 2)), two(row(1, -1)), two(row(1, 0, 11)), two(row(1, 1, 1, 1)), two(row(1, 0, 1, 0)), two(row(1, 1<<32+1)),
			of(1, kind, first, second), two(row(1), row(1)), of(2, 1, row(1, 1, 1)), of(2, 2, row(1, 1, 0)), of(2, 3, row(1, 1)), of(2, 3, row(1)), of(2, 3, row(1, 0, 11))},
	}
	for _, many := range []int{0, -1, math.MinInt, -1 << 32} {
		wrong[api.ErrBad] = append(wrong[api.ErrBad], two(great(first, many)), two(first, great(second, many)))
	}
	for _, cands := range []int{0, -1, 11, 12, math.MaxInt, math.MinInt, 1<<32 + 2, 256 + 2} {
		wrong[api.ErrBad] = append(wrong[api.ErrBad], of(cands, kind), of(cands, kind, first))
	}
	return wrong
}

// show returns a text of p, or of its start if it is long.
func show(p api.Profile) string {
	s := fmt.Sprintf("%d rows among %d of kind %d: %v", len(p.Rows), p.Cands, p.Kind, p.Rows[:min(len(p.Rows), 80)])
	return s[:min(len(s), 1000)]
}

// showContest returns a text of c, or of its start if it is long.
func showContest(c api.Contest) string {
	s := fmt.Sprintf("rule %d, %d seats, %d candidates %q of %q", c.Rule, c.Seats, len(c.Cands), c.Cands, c.Name)
	return s[:min(len(s), 300)]
}

func ints(l ...int) []int { return l }

// Checks

// some returns the start of a list, to be shown.
func some(l []int) []int { return l[:min(len(l), 70)] }

// showOf returns a text of a call of Of.
func showOf(c api.Contest, p api.Profile, lot []int) string {
	return fmt.Sprintf("Of(%s; %s; %v)", showContest(c), show(p), some(lot))
}

// checkOf holds an answer against the one that is wanted, and against the model's.
func checkOf(t *testing.T, c api.Contest, p api.Profile, lot []int, want int, wantExact bool) {
	t.Helper()
	if n, exact, e := margin.Of(c, p, lot); n != want || exact != wantExact || e != api.OK {
		t.Errorf("%s = %d, %v, %d; want %d, %v", showOf(c, p, lot), n, exact, int(e), want, wantExact)
	}
	checkModelOf(t, c, p, lot)
}

// checkModelOf holds an answer against the model's, and returns the number and the error.
func checkModelOf(t *testing.T, c api.Contest, p api.Profile, lot []int) (int, api.Errno) {
	t.Helper()
	n, exact, e := margin.Of(c, p, lot)
	if want, wantExact, wantE := modelOf(c, p, lot); n != want || exact != wantExact || e != wantE {
		t.Errorf("%s = %d, %v, %d; want %d, %v, %d", showOf(c, p, lot), n, exact, int(e), want, wantExact, int(wantE))
	}
	return n, e
}

func checkNoOf(t *testing.T, c api.Contest, p api.Profile, lot []int, want api.Errno) {
	t.Helper()
	if n, exact, e := margin.Of(c, p, lot); n != 0 || exact || e != want {
		t.Errorf("%s = %d, %v, %d; want error %d", showOf(c, p, lot), n, exact, int(e), int(want))
	}
	checkModelOf(t, c, p, lot)
}

// checkGain holds a gain against the one that is wanted, and against the model's.
func checkGain(t *testing.T, rule uint8, cands int, marks []int, w, x, want int) {
	t.Helper()
	if n, e := margin.Gain(rule, cands, marks, w, x); n != want || e != api.OK {
		t.Errorf("Gain(%d, %d, %v, %d, %d) = %d, %d; want %d", rule, cands, some(marks), w, x, n, int(e), want)
	}
	checkModelGain(t, rule, cands, marks, w, x)
}

// checkModelGain holds a gain against the model's, and returns it, with the error.
func checkModelGain(t *testing.T, rule uint8, cands int, marks []int, w, x int) (int, api.Errno) {
	t.Helper()
	n, e := margin.Gain(rule, cands, marks, w, x)
	if want, wantE := modelGain(rule, cands, marks, w, x); n != want || e != wantE {
		t.Errorf("Gain(%d, %d, %v, %d, %d) = %d, %d; want %d, %d", rule, cands, some(marks), w, x, n, int(e), want, int(wantE))
	}
	return n, e
}

func checkNoGain(t *testing.T, rule uint8, cands int, marks []int, w, x int) {
	t.Helper()
	if n, e := margin.Gain(rule, cands, marks, w, x); n != 0 || e != api.ErrArg {
		t.Errorf("Gain(%d, %d, %v, %d, %d) = %d, %d; want error 2", rule, cands, some(marks), w, x, n, int(e))
	}
	checkModelGain(t, rule, cands, marks, w, x)
}

// checkLeast holds an answer against the one that is wanted, and against the model's.
func checkLeast(t *testing.T, gains, counts []int, need, want int, wantOK bool) {
	t.Helper()
	if n, ok, e := margin.Least(gains, counts, need); n != want || ok != wantOK || e != api.OK {
		t.Errorf("Least(%v, %v, %d) = %d, %v, %d; want %d, %v", some(gains), some(counts), need, n, ok, int(e), want, wantOK)
	}
	checkModelLeast(t, gains, counts, need)
}

// checkModelLeast holds an answer against the model's, and returns it.
func checkModelLeast(t *testing.T, gains, counts []int, need int) (int, bool, api.Errno) {
	t.Helper()
	n, ok, e := margin.Least(gains, counts, need)
	if want, wantOK, wantE := modelLeast(gains, counts, need); n != want || ok != wantOK || e != wantE {
		t.Errorf("Least(%v, %v, %d) = %d, %v, %d; want %d, %v, %d", some(gains), some(counts), need, n, ok, int(e), want, wantOK, int(wantE))
	}
	return n, ok, e
}

func checkNoLeast(t *testing.T, gains, counts []int, need int) {
	t.Helper()
	if n, ok, e := margin.Least(gains, counts, need); n != 0 || ok || e != api.ErrArg {
		t.Errorf("Least(%v, %v, %d) = %d, %v, %d; want error 2", some(gains), some(counts), need, n, ok, int(e))
	}
	checkModelLeast(t, gains, counts, need)
}
