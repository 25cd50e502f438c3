package meek_test

import (
	"fmt"
	"math"
	"math/big"
	"math/rand"
	"slices"
	"strings"

	"suffrage/api"
	"suffrage/profile"
)

// Lists of candidates

// upTo returns the numbers from 0 to n - 1.
func upTo(n int) []int {
	var l []int
	for i := range n {
		l = append(l, i)
	}
	return l
}

// downFrom returns the numbers from n - 1 to 0.
func downFrom(n int) []int { return reversed(upTo(n)) }

func reversed(l []int) []int {
	l = slices.Clone(l)
	slices.Reverse(l)
	return l
}

// others returns the list without c.
func others(l []int, c int) []int {
	return slices.DeleteFunc(slices.Clone(l), func(o int) bool { return o == c })
}

// lots returns all permutations of n candidates.
func lots(n int) [][]int {
	if n == 0 {
		return [][]int{nil}
	}
	var all [][]int
	for _, l := range lots(n - 1) {
		for at := range n {
			all = append(all, slices.Insert(slices.Clone(l), at, n-1))
		}
	}
	return all
}

// wilds are numbers that are at a limit or beyond one.
func wilds() []int {
	return []int{math.MinInt, math.MinInt + 1, -1 << 62, -1 << 32, -million, -11, -10, -2, -1, 0, 1, 2, 3, 9, 10, 11, 12, 255, 256, 257, 500000, 500001, million - 1, million, million + 1, unit - 1, unit, unit + 1, 1 << 31, 1<<32 - 1, 1 << 32, 1<<32 + 1, most - 1, most, most + 1, 1 << 62, math.MaxInt - million, math.MaxInt - 1, math.MaxInt}
}

func randomWild(random *rand.Rand) int { return wilds()[random.Intn(len(wilds()))] }

// wrongLots are no permutations of so many candidates.
func wrongLots(cands int) [][]int {
	lot := upTo(cands)
	wrong := [][]int{nil, {}, lot[:cands-1], lot[1:], append(upTo(cands), cands), append(upTo(cands), 0), append(upTo(cands), cands-1), append([]int{-1}, lot[1:]...), append([]int{-1}, lot...), append(upTo(cands-1), cands), make([]int, 200), slices.Repeat([]int{cands - 1}, cands+1)}
	for at := range lot {
		for _, wild := range []int{-1, cands, 10, 11, math.MinInt, math.MaxInt, at + 1<<8, at + 1<<32, at - 1<<32} {
			if wild != at {
				changed := upTo(cands)
				changed[at] = wild
				wrong = append(wrong, changed)
			}
		}
		if at > 0 { // a number twice
			twice := upTo(cands)
			twice[at] = at - 1
			wrong = append(wrong, twice, reversed(twice))
		}
	}
	return slices.DeleteFunc(wrong, func(l []int) bool { return isLot(l, cands) })
}

// Profiles

func row(many int, marks ...int) api.Row { return api.Row{Marks: marks, Many: many} }

// of returns a profile with rows, valid or not.
func of(cands int, kind uint8, rows ...api.Row) api.Profile {
	return api.Profile{Cands: cands, Kind: kind, Rows: rows}
}

// ranks returns a profile of rankings.
func ranks(cands int, rows ...api.Row) api.Profile { return of(cands, 1, rows...) }

// sorted returns a profile of rankings, with its rows in order.
func sorted(cands int, rows ...api.Row) api.Profile {
	slices.SortFunc(rows, func(r, s api.Row) int { return slices.Compare(r.Marks, s.Marks) })
	return ranks(cands, rows...)
}

// add returns p with more ballots, or p if that is beyond the limits.
func add(p api.Profile, many int, marks ...int) api.Profile {
	if more, e := profile.Add(p, api.Ballot{Kind: 1, Marks: marks}, many); e == api.OK {
		return more
	}
	return p
}

func theExample() api.Profile { return ranks(3, row(6, 0, 1), row(1, 1), row(3, 2)) }

// fullProfile returns a profile of any kind with as many rows and as many ballots as the limits allow.
func fullProfile(kind uint8) api.Profile {
	p := of(10, kind)
	for i := range 64 {
		marks := append([]int{i / 8}, others(upTo(10), i/8)[i%8:]...)
		switch kind {
		case 2:
			marks = slices.DeleteFunc(upTo(10), func(c int) bool { return i>>c&1 == 0 })
		case 3:
			marks = []int{0, 10, 5, 0, 0, 0, i / 8, i % 8, 7, 10}
		}
		p.Rows = append(p.Rows, row(15625, marks...))
	}
	slices.SortFunc(p.Rows, func(r, s api.Row) int { return slices.Compare(r.Marks, s.Marks) })
	return p
}

// unevenProfile is like fullProfile, with rows of all sizes.
func unevenProfile() api.Profile {
	p := fullProfile(1)
	for i := range 32 {
		p.Rows[i].Many = 31249 - 977*i
		p.Rows[63-i].Many = 1 + 977*i
	}
	return p
}

// randomMarks returns the marks of a valid ballot.
func randomMarks(random *rand.Rand, cands int, kind uint8) []int {
	if kind == 3 {
		var scores []int
		for range cands {
			scores = append(scores, []int{0, 0, 1, 5, 9, 10, 10, random.Intn(11)}[random.Intn(8)])
		}
		return scores
	}
	marks := random.Perm(cands)
	switch random.Intn(4) {
	case 0:
		marks = marks[:random.Intn(len(marks)+1)]
	case 1:
		marks = marks[:1]
	}
	if kind == 2 {
		slices.Sort(marks)
	}
	return marks
}

// randomProfile returns a valid profile, often with few ballots, so that candidates are tied.
func randomProfile(random *rand.Rand, cands int, kind uint8) api.Profile {
	p := of(cands, kind)
	most := []int{1, 4, 12, 40}[random.Intn(4)]
	many := []int{1, 2, 1000, million / 40}[random.Intn(4)]
	for range random.Intn(most + 1) {
		p.Rows = append(p.Rows, row(1+random.Intn(many), randomMarks(random, cands, kind)...))
	}
	slices.SortFunc(p.Rows, func(r, s api.Row) int { return slices.Compare(r.Marks, s.Marks) })
	p.Rows = slices.CompactFunc(p.Rows, func(r, s api.Row) bool { return slices.Equal(r.Marks, s.Marks) })
	return p
}

// evened returns a profile like p in which candidates are often tied: with each ballot there are those of a few candidates renamed in a circle.
func evened(random *rand.Rand, p api.Profile) api.Profile {
	circle := random.Perm(p.Cands)[:1+random.Intn(min(p.Cands, 4))]
	perm := upTo(p.Cands)
	for i, c := range circle {
		perm[c] = circle[(i+1)%len(circle)]
	}
	whole, turned := p, p
	for range len(circle) - 1 {
		var e api.Errno
		if turned, e = profile.Rename(turned, perm); e != api.OK {
			return p
		}
		if whole, e = profile.Sum(whole, turned); e != api.OK {
			return p
		}
	}
	return whole
}

// leaning returns a valid profile in which most ballots are close to one ranking, so that their values pass on again and again.
func leaning(random *rand.Rand) api.Profile {
	cands := 1 + random.Intn(10)
	p := randomProfile(random, cands, api.KindRank)
	order := random.Perm(cands)
	many := []int{20, 20, 1000, 20000}[random.Intn(4)]
	for range random.Intn(12) {
		marks := slices.Clone(order)
		at, other := random.Intn(cands), random.Intn(cands)
		marks[at], marks[other] = marks[other], marks[at]
		p = add(p, 1+random.Intn(many), marks[:1+random.Intn(cands)]...)
	}
	if random.Intn(3) == 0 {
		p = evened(random, p)
	}
	return p
}

// anyProfile returns a valid profile of rankings: random, leaning or evened.
func anyProfile(random *rand.Rand) api.Profile {
	p := leaning(random)
	if random.Intn(3) > 0 {
		p = randomProfile(random, 1+random.Intn(10), api.KindRank)
	}
	if random.Intn(3) == 0 {
		p = evened(random, p)
	}
	return p
}

// spoilt returns p with a change, after which it often is not valid.
func spoilt(random *rand.Rand, p api.Profile) api.Profile {
	p = profile.Twin(p)
	wild := randomWild(random)
	if len(p.Rows) == 0 {
		p.Rows = []api.Row{{Many: wild}}
	}
	at, other := random.Intn(len(p.Rows)), random.Intn(len(p.Rows))
	switch random.Intn(7) {
	case 0:
		p.Cands = wild
	case 1:
		p.Kind = uint8(random.Intn(5))
	case 2:
		p.Rows[at].Many = wild
	case 3:
		p.Rows[at].Marks = append(p.Rows[at].Marks, wild)
	case 4:
		p.Rows[at], p.Rows[other] = p.Rows[other], p.Rows[at]
	case 5:
		p.Rows = append(p.Rows, make([]api.Row, random.Intn(99))...)
	case 6:
		p.Cands = random.Intn(11)
	}
	return p
}

// spoiltLot returns the lot with a change, after which it often is none.
func spoiltLot(random *rand.Rand, lot []int) []int {
	lot = slices.Clone(lot)
	switch random.Intn(3) {
	case 0:
		lot[random.Intn(len(lot))] = randomWild(random)
	case 1:
		lot = lot[:random.Intn(len(lot))]
	case 2:
		lot = append(lot, randomWild(random))
	}
	return lot
}

// wrongProfiles returns, for each error of profile.Check, profiles of rankings that have it, and others that have it whatever their kind.
func wrongProfiles() map[api.Errno][]api.Profile {
	first, second := row(2, 0), row(2, 1, 0)
	great := func(r api.Row, many int) api.Row { return api.Row{Marks: r.Marks, Many: many} }
	wrong := map[api.Errno][]api.Profile{
		api.ErrFull: {ranks(2, make([]api.Row, 65)...), ranks(2, slices.Repeat([]api.Row{first, second}, 33)...), of(0, 9, make([]api.Row, 65)...), ranks(10, append(fullProfile(1).Rows, row(1, 9, 8, 7, 6, 5, 4, 3, 2, 1, 0))...)},
		api.ErrMany: {ranks(2, great(first, million+1)), ranks(2, first, great(second, million-1)), ranks(2, great(first, math.MaxInt), second), ranks(2, great(first, math.MaxInt), great(second, math.MaxInt)), ranks(2, first, great(second, 1<<32)), of(2, 2, row(million+1, 1)), ranks(2, row(million+1))},
		api.ErrBad: {{}, of(2, 0), of(2, 4), of(2, 255), ranks(2, second, first), ranks(2, first, first), ranks(2, row(1, 2)), ranks(2, row(1, -1, 0)), ranks(2, row(1, 0, 11)), ranks(2, row(1, 1, 1)), ranks(2, row(1, 0, 1, 0)), ranks(2, row(1, 0, 1<<32+1)),
			ranks(1, first, second), ranks(2, row(1), row(1)), of(2, 2, row(1, 1, 0)), of(2, 3, row(1, 1)), of(2, 3, row(1, 0, 11))},
	}
	for _, many := range []int{0, -1, math.MinInt, -1 << 32} {
		wrong[api.ErrBad] = append(wrong[api.ErrBad], ranks(2, great(first, many)), ranks(2, first, great(second, many)))
	}
	for _, cands := range []int{0, -1, 11, 12, math.MaxInt, math.MinInt, 1<<32 + 2, 256 + 2} {
		wrong[api.ErrBad] = append(wrong[api.ErrBad], ranks(cands), ranks(cands, first))
	}
	return wrong
}

// show returns a text of p, or of its start if it is long.
func show(p api.Profile) string {
	s := fmt.Sprintf("%d rows among %d of kind %d: %v", len(p.Rows), p.Cands, p.Kind, p.Rows[:min(len(p.Rows), 80)])
	return s[:min(len(s), 1000)]
}

// Outcomes

// tie returns a decision by lot.
func tie(chosen int, among ...int) api.Tie { return api.Tie{Among: among, Chosen: chosen} }

// exactly returns a number that is written in decimal, as a rational number in its one form.
func exactly(s string) api.Ratio {
	x, ok := new(big.Rat).SetString(s)
	if !ok || x.Sign() < 0 {
		panic("no number: " + s)
	}
	return api.Ratio{Num: limbsOf(x.Num()), Den: limbsOf(x.Denom())}
}

// won returns a round that elects these candidates. The text has what the candidates have and, behind a stroke, what is lost.
func won(totals string, elected ...int) api.Round {
	had, lost, _ := strings.Cut(totals, "|")
	r := api.Round{Lost: exactly(strings.TrimSpace(lost)), Elected: elected}
	for _, s := range strings.Fields(had) {
		r.Had = append(r.Had, exactly(s))
	}
	return r
}

// out is like won, but for a round that eliminates a candidate.
func out(totals string, c int) api.Round {
	r := won(totals, c)
	r.Elected, r.Out = nil, r.Elected
	return r
}

// outcome returns the outcome with these rounds.
func outcome(ties []api.Tie, rounds ...api.Round) api.Outcome {
	o := api.Outcome{Rounds: rounds, Ties: ties}
	for _, r := range rounds {
		o.Elected = append(o.Elected, r.Elected...)
	}
	return o
}

// untied returns the outcome without ties.
func untied(rounds ...api.Round) api.Outcome { return outcome(nil, rounds...) }

// ties returns a list of decisions by lot.
func ties(l ...api.Tie) []api.Tie { return l }

// ratOf returns the number that x is.
func ratOf(x api.Ratio) *big.Rat {
	n := func(limbs []uint32) *big.Int {
		n := new(big.Int)
		for _, limb := range slices.Backward(limbs) {
			n.Lsh(n, 32).Or(n, big.NewInt(int64(limb)))
		}
		return n
	}
	if len(x.Den) == 0 {
		return new(big.Rat)
	}
	return new(big.Rat).SetFrac(n(x.Num), n(x.Den))
}

// tell returns a text of an outcome in decimal numbers.
func tell(o api.Outcome) string {
	decimal := func(x api.Ratio) string { return strings.TrimSuffix(ratOf(x).FloatString(9), ".000000000") }
	s := fmt.Sprintf("elected %v, ties %v", o.Elected, o.Ties)
	for _, r := range o.Rounds {
		s += ";"
		for _, x := range r.Had {
			s += " " + decimal(x)
		}
		s += fmt.Sprintf(" | %s elects %v, eliminates %v", decimal(r.Lost), r.Elected, r.Out)
	}
	return s
}

func sameNumber(x, y api.Ratio) bool {
	return x.Neg == y.Neg && slices.Equal(x.Num, y.Num) && slices.Equal(x.Den, y.Den)
}

// same reports whether two outcomes are equal in all fields.
func same(a, b api.Outcome) bool {
	return slices.Equal(a.Elected, b.Elected) && slices.EqualFunc(a.Rounds, b.Rounds, func(r, s api.Round) bool {
		return slices.EqualFunc(r.Had, s.Had, sameNumber) && sameNumber(r.Lost, s.Lost) && slices.Equal(r.Elected, s.Elected) && slices.Equal(r.Out, s.Out)
	}) && slices.EqualFunc(a.Ties, b.Ties, func(r, s api.Tie) bool { return slices.Equal(r.Among, s.Among) && r.Chosen == s.Chosen })
}

func twinNumber(x api.Ratio) api.Ratio {
	return api.Ratio{Neg: x.Neg, Num: slices.Clone(x.Num), Den: slices.Clone(x.Den)}
}

// twin returns o in memory of its own.
func twin(o api.Outcome) api.Outcome {
	copied := api.Outcome{Elected: slices.Clone(o.Elected)}
	for _, r := range o.Rounds {
		round := api.Round{Lost: twinNumber(r.Lost), Elected: slices.Clone(r.Elected), Out: slices.Clone(r.Out)}
		for _, n := range r.Had {
			round.Had = append(round.Had, twinNumber(n))
		}
		copied.Rounds = append(copied.Rounds, round)
	}
	for _, x := range o.Ties {
		copied.Ties = append(copied.Ties, tie(x.Chosen, slices.Clone(x.Among)...))
	}
	return copied
}
