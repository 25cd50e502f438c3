package coombs_test

import (
	"fmt"
	"math"
	"math/rand"
	"slices"

	"suffrage/api"
	"suffrage/profile"
)

// The model follows the words of the document. For Lasts it asks, of every candidate and every row, whether the ballots are against the candidate. For Count it strikes out, on every ballot, whoever is eliminated, so that a ballot counts for the first name that stands on it; and the lot is gone through from its end.

// modelIsLeft reports whether c is left.
func modelIsLeft(left []bool, c int) bool { return c < len(left) && left[c] }

// modelIsAgainst reports whether a ballot is against c, if there are so many candidates and c is left.
func modelIsAgainst(marks []int, cands int, left []bool, c int) bool {
	for o := range cands {
		if modelIsLeft(left, o) && !slices.Contains(marks, o) {
			return !slices.Contains(marks, c)
		}
	}
	behind := marks[slices.Index(marks, c)+1:]
	return !slices.ContainsFunc(behind, func(o int) bool { return modelIsLeft(left, o) })
}

func modelLasts(p api.Profile, left []bool) ([]int, api.Errno) {
	if profile.Check(p) != api.OK || p.Kind != 1 {
		return nil, api.ErrBad
	}
	against := make([]int, p.Cands)
	for c := range against {
		for _, r := range p.Rows {
			if modelIsLeft(left, c) && modelIsAgainst(r.Marks, p.Cands, left, c) {
				against[c] += r.Many
			}
		}
	}
	return against, api.OK
}

// isLot reports whether the lot is a permutation of so many candidates.
func isLot(lot []int, cands int) bool {
	return len(lot) < 100 && slices.Equal(slices.Sorted(slices.Values(lot)), upTo(min(max(cands, 0), 100)))
}

func modelError(p api.Profile, seats int, lot []int) api.Errno {
	if profile.Check(p) != api.OK || p.Kind != 1 {
		return api.ErrBad
	}
	if seats != 1 || !isLot(lot, p.Cands) {
		return api.ErrArg
	}
	return api.OK
}

// sheets are the ballots, on which whoever has been eliminated is struck out.
type sheets []api.Row

func (l sheets) strike(c int) {
	for i, r := range l {
		l[i].Marks = slices.DeleteFunc(slices.Clone(r.Marks), func(o int) bool { return o == c })
	}
}

// totals returns the ballots for and against each candidate, of whom so many are not struck out, and those without a name.
func (l sheets) totals(cands int, left []int) (had, against []int, lost int) {
	had, against = make([]int, cands), make([]int, cands)
	for _, r := range l {
		if len(r.Marks) == 0 {
			lost += r.Many
		} else {
			had[r.Marks[0]] += r.Many
		}
		if len(r.Marks) == len(left) {
			against[r.Marks[len(left)-1]] += r.Many
			continue
		}
		for _, c := range left {
			if !slices.Contains(r.Marks, c) {
				against[c] += r.Many
			}
		}
	}
	return had, against, lost
}

func modelCount(p api.Profile, seats int, lot []int) (api.Outcome, api.Errno) {
	if e := modelError(p, seats, lot); e != api.OK {
		return api.Outcome{}, e
	}
	l, left := sheets(slices.Clone(p.Rows)), upTo(p.Cands)
	var rounds []api.Round
	var ties []api.Tie
	for {
		had, against, lost := l.totals(p.Cands, left)
		valid := 0
		for _, n := range had {
			valid += n
		}
		best := slices.MaxFunc(left, func(x, y int) int { return had[x] - had[y] })
		if len(left) == 1 || had[best] >= valid/2+1 {
			return outcome(ties, append(rounds, won(best, lost, had...))...), api.OK
		}
		most := against[slices.MaxFunc(left, func(x, y int) int { return against[x] - against[y] })]
		among := slices.DeleteFunc(slices.Clone(left), func(c int) bool { return against[c] != most })
		last := -1
		for _, c := range lot {
			if slices.Contains(among, c) {
				last = c
			}
		}
		rounds = append(rounds, out(last, lost, had...))
		if len(among) > 1 {
			ties = append(ties, tie(last, among...))
		}
		left = slices.DeleteFunc(left, func(c int) bool { return c == last })
		l.strike(last)
	}
}

// modelNumber returns a whole number, which is less than 33 bits long and not negative, in its one form.
func modelNumber(n int) api.Ratio {
	switch {
	case n < 0 || n >= 1<<32:
		panic("not of the model")
	case n == 0:
		return api.Ratio{Den: []uint32{1}}
	default:
		return api.Ratio{Num: []uint32{uint32(n)}, Den: []uint32{1}}
	}
}

// modelRename returns the outcome in which candidate c is called perm[c].
func modelRename(o api.Outcome, perm []int) api.Outcome {
	called := func(l []int) []int {
		var names []int
		for _, c := range l {
			names = append(names, perm[c])
		}
		return names
	}
	renamed := api.Outcome{Elected: called(o.Elected)}
	for _, r := range o.Rounds {
		had := make([]api.Ratio, len(r.Had))
		for c, n := range r.Had {
			had[perm[c]] = n
		}
		renamed.Rounds = append(renamed.Rounds, api.Round{Had: had, Lost: r.Lost, Elected: called(r.Elected), Out: called(r.Out)})
	}
	for _, tie := range o.Ties {
		renamed.Ties = append(renamed.Ties, api.Tie{Among: slices.Sorted(slices.Values(called(tie.Among))), Chosen: perm[tie.Chosen]})
	}
	return renamed
}

func sameNumber(x, y api.Ratio) bool {
	return x.Neg == y.Neg && slices.Equal(x.Num, y.Num) && slices.Equal(x.Den, y.Den)
}

// same reports whether two outcomes are equal in all fields.
func same(a, b api.Outcome) bool {
	return slices.Equal(a.Elected, b.Elected) && slices.EqualFunc(a.Rounds, b.Rounds, func(r, s api.Round) bool {
		return slices.EqualFunc(r.Had, s.Had, sameNumber) && sameNumber(r.Lost, s.Lost) && slices.Equal(r.Elected, s.Elected) && slices.Equal(r.Out, s.Out)
	}) && slices.EqualFunc(a.Ties, b.Ties, func(r, s api.Tie) bool { return slices.Equal(r.Among, s.Among) && r.Chosen == s.Chosen })
}

func twinNumber(x api.Ratio) api.Ratio {
	return api.Ratio{Neg: x.Neg, Num: slices.Clone(x.Num), Den: slices.Clone(x.Den)}
}

// twin returns o in memory of its own.
func twin(o api.Outcome) api.Outcome {
	copied := api.Outcome{Elected: slices.Clone(o.Elected)}
	for _, r := range o.Rounds {
		round := api.Round{Lost: twinNumber(r.Lost), Elected: slices.Clone(r.Elected), Out: slices.Clone(r.Out)}
		for _, n := range r.Had {
			round.Had = append(round.Had, twinNumber(n))
		}
		copied.Rounds = append(copied.Rounds, round)
	}
	for _, tie := range o.Ties {
		copied.Ties = append(copied.Ties, api.Tie{Among: slices.Clone(tie.Among), Chosen: tie.Chosen})
	}
	return copied
}

// upTo returns the numbers from 0 to n - 1.
func upTo(n int) []int {
	var l []int
	for i := range n {
		l = append(l, i)
	}
	return l
}

// downFrom returns the numbers from n - 1 to 0.
func downFrom(n int) []int { return reversed(upTo(n)) }

func reversed(l []int) []int {
	l = slices.Clone(l)
	slices.Reverse(l)
	return l
}

// others returns all candidates but c.
func others(cands, c int) []int {
	return slices.DeleteFunc(upTo(cands), func(o int) bool { return o == c })
}

// lots returns all permutations of n candidates.
func lots(n int) [][]int {
	if n == 0 {
		return [][]int{nil}
	}
	var all [][]int
	for _, l := range lots(n - 1) {
		for at := range n {
			all = append(all, slices.Insert(slices.Clone(l), at, n-1))
		}
	}
	return all
}

// wilds are numbers that are at a limit or beyond one.
func wilds() []int {
	return []int{math.MinInt, math.MinInt + 1, -1 << 62, -1 << 32, -1000000, -11, -10, -2, -1, 0, 1, 2, 3, 9, 10, 11, 12, 255, 256, 257, 500000, 500001, 999999, 1000000, 1000001, 1 << 31, 1<<32 - 1, 1 << 32, 1<<32 + 1, 1 << 62, math.MaxInt - 1000000, math.MaxInt - 1, math.MaxInt}
}

func randomWild(random *rand.Rand) int { return wilds()[random.Intn(len(wilds()))] }

// wrongLots are no permutations of so many candidates.
func wrongLots(cands int) [][]int {
	lot := upTo(cands)
	wrong := [][]int{nil, {}, lot[:cands-1], lot[1:], append(upTo(cands), cands), append(upTo(cands), 0), append(upTo(cands), cands-1), append([]int{-1}, lot[1:]...), append([]int{-1}, lot...), append(upTo(cands-1), cands), make([]int, 200), slices.Repeat([]int{cands - 1}, cands+1)}
	for at := range lot {
		for _, wild := range []int{-1, cands, 10, 11, math.MinInt, math.MaxInt, at + 1<<8, at + 1<<32, at - 1<<32} {
			if wild != at {
				changed := upTo(cands)
				changed[at] = wild
				wrong = append(wrong, changed)
			}
		}
		if at > 0 { // a number twice
			twice := upTo(cands)
			twice[at] = at - 1
			wrong = append(wrong, twice, reversed(twice))
		}
	}
	return slices.DeleteFunc(wrong, func(l []int) bool { return isLot(l, cands) })
}

// randomMarks returns the marks of a valid ballot.
func randomMarks(random *rand.Rand, cands int, kind uint8) []int {
	if kind == 3 {
		var scores []int
		for range cands {
			scores = append(scores, []int{0, 0, 1, 5, 9, 10, 10, random.Intn(11)}[random.Intn(8)])
		}
		return scores
	}
	marks := random.Perm(cands)
	switch random.Intn(4) {
	case 0:
		marks = marks[:random.Intn(len(marks)+1)]
	case 1:
		marks = marks[:1]
	}
	if kind == 2 {
		slices.Sort(marks)
	}
	return marks
}

// randomProfile returns a valid profile, often with few ballots, so that candidates are tied.
func randomProfile(random *rand.Rand, cands int, kind uint8) api.Profile {
	p := of(cands, kind)
	most := []int{1, 4, 12, 40}[random.Intn(4)]
	many := []int{1, 2, 1000, 1000000 / 40}[random.Intn(4)]
	for range random.Intn(most + 1) {
		p.Rows = append(p.Rows, row(1+random.Intn(many), randomMarks(random, cands, kind)...))
	}
	slices.SortFunc(p.Rows, func(r, s api.Row) int { return slices.Compare(r.Marks, s.Marks) })
	p.Rows = slices.CompactFunc(p.Rows, func(r, s api.Row) bool { return slices.Equal(r.Marks, s.Marks) })
	return p
}

// evened returns a profile like p in which candidates are often tied: with each ballot there are those of a few candidates renamed in a circle.
func evened(random *rand.Rand, p api.Profile) api.Profile {
	circle := random.Perm(p.Cands)[:1+random.Intn(min(p.Cands, 4))]
	perm := upTo(p.Cands)
	for i, c := range circle {
		perm[c] = circle[(i+1)%len(circle)]
	}
	whole, turned := p, p
	for range len(circle) - 1 {
		var e api.Errno
		if turned, e = profile.Rename(turned, perm); e != api.OK {
			return p
		}
		if whole, e = profile.Sum(whole, turned); e != api.OK {
			return p
		}
	}
	return whole
}

// leaning returns a valid profile in which most ballots are close to one ranking, so that there often are a winner and candidates far behind.
func leaning(random *rand.Rand) api.Profile {
	cands := 1 + random.Intn(10)
	p := randomProfile(random, cands, api.KindRank)
	order := random.Perm(cands)
	for range random.Intn(10) {
		marks := slices.Clone(order)
		at, other := random.Intn(cands), random.Intn(cands)
		marks[at], marks[other] = marks[other], marks[at]
		if more, e := profile.Add(p, api.Ballot{Kind: 1, Marks: marks[:1+random.Intn(cands)]}, 1+random.Intn(20)); e == api.OK {
			p = more
		}
	}
	if random.Intn(3) == 0 {
		p = evened(random, p)
	}
	return p
}

// randomLeft returns a list that is shorter than, as long as or longer than so many candidates.
func randomLeft(random *rand.Rand, cands int) []bool {
	n := cands
	if random.Intn(2) == 0 {
		n = random.Intn(2*cands + 2)
	}
	often := 1 + random.Intn(5)
	var left []bool
	for range n {
		left = append(left, random.Intn(6) < often)
	}
	return left
}

// spoilt returns p with a change, after which it often is not valid.
func spoilt(random *rand.Rand, p api.Profile) api.Profile {
	p = profile.Twin(p)
	wild := randomWild(random)
	if len(p.Rows) == 0 {
		p.Rows = []api.Row{{Many: wild}}
	}
	at, other := random.Intn(len(p.Rows)), random.Intn(len(p.Rows))
	switch random.Intn(7) {
	case 0:
		p.Cands = wild
	case 1:
		p.Kind = uint8(random.Intn(5))
	case 2:
		p.Rows[at].Many = wild
	case 3:
		p.Rows[at].Marks = append(p.Rows[at].Marks, wild)
	case 4:
		p.Rows[at], p.Rows[other] = p.Rows[other], p.Rows[at]
	case 5:
		p.Rows = append(p.Rows, make([]api.Row, random.Intn(99))...)
	case 6:
		p.Cands = random.Intn(11)
	}
	return p
}

// spoiltLot returns the lot with a change, after which it often is none.
func spoiltLot(random *rand.Rand, lot []int) []int {
	lot = slices.Clone(lot)
	switch random.Intn(3) {
	case 0:
		lot[random.Intn(len(lot))] = randomWild(random)
	case 1:
		lot = lot[:random.Intn(len(lot))]
	case 2:
		lot = append(lot, randomWild(random))
	}
	return lot
}

// show returns a text of p, or of its start if it is long.
func show(p api.Profile) string {
	s := fmt.Sprintf("%d rows among %d of kind %d: %v", len(p.Rows), p.Cands, p.Kind, p.Rows[:min(len(p.Rows), 80)])
	return s[:min(len(s), 1000)]
}

// The checks

func row(many int, marks ...int) api.Row { return api.Row{Marks: marks, Many: many} }

// of returns a profile with rows, valid or not.
func of(cands int, kind uint8, rows ...api.Row) api.Profile {
	return api.Profile{Cands: cands, Kind: kind, Rows: rows}
}

// ranks returns a profile of rankings.
func ranks(cands int, rows ...api.Row) api.Profile { return of(cands, 1, rows...) }

// sorted returns a profile of rankings, with its rows in order.
func sorted(cands int, rows ...api.Row) api.Profile {
	slices.SortFunc(rows, func(r, s api.Row) int { return slices.Compare(r.Marks, s.Marks) })
	return ranks(cands, rows...)
}

// tie returns a decision by lot.
func tie(chosen int, among ...int) api.Tie { return api.Tie{Among: among, Chosen: chosen} }

// out returns a round that eliminates c, and won one that elects it.
func out(c, lost int, had ...int) api.Round {
	r := api.Round{Lost: modelNumber(lost), Out: []int{c}}
	for _, n := range had {
		r.Had = append(r.Had, modelNumber(n))
	}
	return r
}

func won(c, lost int, had ...int) api.Round {
	r := out(c, lost, had...)
	r.Elected, r.Out = r.Out, nil
	return r
}

// outcome returns the outcome with these rounds, of which the last one elects somebody.
func outcome(ties []api.Tie, rounds ...api.Round) api.Outcome {
	return api.Outcome{Elected: slices.Clone(rounds[len(rounds)-1].Elected), Rounds: rounds, Ties: ties}
}

// untied returns the outcome without ties.
func untied(rounds ...api.Round) api.Outcome { return outcome(nil, rounds...) }

// number returns the whole number that x is, or -1.
func number(x api.Ratio) int {
	switch {
	case sameNumber(x, modelNumber(0)):
		return 0
	case len(x.Num) == 1 && sameNumber(x, modelNumber(int(x.Num[0]))):
		return int(x.Num[0])
	}
	return -1
}
