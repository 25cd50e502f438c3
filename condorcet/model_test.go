package condorcet_test

import (
	"cmp"
	"fmt"
	"math"
	"math/big"
	"math/rand"
	"slices"

	"suffrage/api"
	"suffrage/condorcet"
	"suffrage/profile"
)

// The model follows the words of the document. Winner and loser are found by asking of every pair of candidates who beats whom, and the Smith set by trying all sets of candidates. The numbers of the two rules are found from the ballots of each pair of candidates, and who is elected from one order of all candidates: by their numbers, and among equals by the lot.

func modelAmong(cands int) bool {
	return slices.Contains([]int{1, 2, 3, 4, 5, 6, 7, 8, 9, 10}, cands)
}

// modelRight reports whether m is valid among cands candidates.
func modelRight(m api.Pairs, cands int) bool {
	wrong := 0
	for x := range 10 {
		for y := range 10 {
			if m[x][y] < 0 {
				wrong++
			}
			if (x == y || x >= cands || y >= cands) && m[x][y] != 0 {
				wrong++
			}
			if sum := big.NewInt(int64(m[x][y])); sum.Add(sum, big.NewInt(int64(m[y][x]))).Cmp(big.NewInt(1000000)) > 0 {
				wrong++
			}
		}
	}
	return wrong == 0 && modelAmong(cands)
}

// others returns all candidates but c.
func others(cands, c int) []int {
	return slices.DeleteFunc(upTo(cands), func(o int) bool { return o == c })
}

// modelAlone returns the candidate for which all the others are as asked, if there is one.
func modelAlone(m api.Pairs, cands int, asked func(c, other int) bool) (int, bool) {
	if !modelRight(m, cands) {
		return 0, false
	}
	found := slices.DeleteFunc(upTo(cands), func(c int) bool {
		return slices.ContainsFunc(others(cands, c), func(o int) bool { return !asked(c, o) })
	})
	if len(found) > 1 {
		panic("two are alone")
	}
	return append(found, 0)[0], len(found) == 1
}

func modelWinner(m api.Pairs, cands int) (int, bool) {
	return modelAlone(m, cands, func(c, other int) bool { return m[c][other] > m[other][c] })
}

func modelLoser(m api.Pairs, cands int) (int, bool) {
	return modelAlone(m, cands, func(c, other int) bool { return m[other][c] > m[c][other] })
}

// modelSmith returns the set of the fewest candidates each of which beats every candidate outside.
func modelSmith(m api.Pairs, cands int) ([]int, api.Errno) {
	if !modelAmong(cands) {
		return nil, api.ErrArg
	}
	if !modelRight(m, cands) {
		return nil, api.ErrBad
	}
	var beaten [10]int // by each candidate, as bits
	for x := range cands {
		for y := range cands {
			if m[x][y] > m[y][x] {
				beaten[x] |= 1 << y
			}
		}
	}
	var smallest []int
	for set := 1; set < 1<<cands; set++ {
		outside := 1<<cands - 1 - set
		var members []int
		isLess := false
		for c := range cands {
			if set>>c&1 == 1 {
				members = append(members, c)
				isLess = isLess || beaten[c]&outside != outside
			}
		}
		if !isLess && (smallest == nil || len(members) < len(smallest)) {
			smallest = members
		}
	}
	return smallest, api.OK
}

// method is one of the rules: the function, and what the document says of it.
type method struct {
	name   string
	do     func(p api.Profile, seats int, lot []int) (api.Outcome, api.Errno)
	halves func(p api.Profile, c int) int // the number of a candidate, in halves
	sign   int                            // 1 if the highest number wins, -1 if the lowest does
}

func methods() []method { return []method{copeland(), minimax()} }

func copeland() method {
	return method{"Copeland", condorcet.Copeland, func(p api.Profile, c int) int {
		halves := 0
		for _, o := range others(p.Cands, c) {
			halves += 1 + cmp.Compare(modelPreferring(p, c, o), modelPreferring(p, o, c))
		}
		return halves
	}, 1}
}

func minimax() method {
	return method{"Minimax", condorcet.Minimax, func(p api.Profile, c int) int {
		margins := []int{0}
		for _, o := range others(p.Cands, c) {
			margins = append(margins, modelPreferring(p, o, c)-modelPreferring(p, c, o))
		}
		slices.Sort(margins)
		return 2 * margins[len(margins)-1]
	}, -1}
}

// modelPreferring returns the number of rankings that prefer x to y.
func modelPreferring(p api.Profile, x, y int) int {
	many := 0
	for _, row := range p.Rows {
		for _, c := range row.Marks {
			if c == x {
				many += row.Many
			}
			if c == x || c == y {
				break
			}
		}
	}
	return many
}

// modelMatrix returns the matrix of a valid profile of rankings.
func modelMatrix(p api.Profile) api.Pairs {
	var m api.Pairs
	for x := range p.Cands {
		for _, y := range others(p.Cands, x) {
			m[x][y] = modelPreferring(p, x, y)
		}
	}
	return m
}

// modelNumber returns a number of halves, which is less than 33 bits long and not negative, in its one form.
func modelNumber(halves int) api.Ratio {
	switch {
	case halves < 0 || halves >= 1<<32:
		panic("not of the model")
	case halves == 0:
		return api.Ratio{Den: []uint32{1}}
	case halves%2 == 0:
		return api.Ratio{Num: []uint32{uint32(halves / 2)}, Den: []uint32{1}}
	default:
		return api.Ratio{Num: []uint32{uint32(halves)}, Den: []uint32{2}}
	}
}

func modelError(p api.Profile, seats int, lot []int) api.Errno {
	if profile.Check(p) != api.OK || p.Kind != 1 {
		return api.ErrBad
	}
	if seats != 1 || !slices.Equal(slices.Sorted(slices.Values(lot)), upTo(p.Cands)) {
		return api.ErrArg
	}
	return api.OK
}

func (m method) model(p api.Profile, seats int, lot []int) (api.Outcome, api.Errno) {
	if e := modelError(p, seats, lot); e != api.OK {
		return api.Outcome{}, e
	}
	var halves []int
	round := api.Round{Lost: modelNumber(0)}
	for c := range p.Cands {
		halves = append(halves, m.halves(p, c))
		round.Had = append(round.Had, modelNumber(halves[c]))
	}
	order := upTo(p.Cands)
	slices.SortFunc(order, func(x, y int) int {
		return cmp.Or(m.sign*cmp.Compare(halves[y], halves[x]), cmp.Compare(slices.Index(lot, x), slices.Index(lot, y)))
	})
	among := slices.DeleteFunc(upTo(p.Cands), func(c int) bool { return halves[c] != halves[order[0]] })
	var ties []api.Tie
	if len(among) > 1 {
		ties = []api.Tie{tie(order[0], among...)}
	}
	round.Elected = []int{order[0]}
	return api.Outcome{Elected: []int{order[0]}, Rounds: []api.Round{round}, Ties: ties}, api.OK
}

// modelRename returns the outcome in which candidate c is called perm[c].
func modelRename(o api.Outcome, perm []int) api.Outcome {
	called := func(l []int) []int {
		var names []int
		for _, c := range l {
			names = append(names, perm[c])
		}
		return names
	}
	renamed := api.Outcome{Elected: called(o.Elected)}
	for _, r := range o.Rounds {
		had := make([]api.Ratio, len(r.Had))
		for c, n := range r.Had {
			had[perm[c]] = n
		}
		renamed.Rounds = append(renamed.Rounds, api.Round{Had: had, Lost: r.Lost, Elected: called(r.Elected), Out: called(r.Out)})
	}
	for _, tie := range o.Ties {
		renamed.Ties = append(renamed.Ties, api.Tie{Among: slices.Sorted(slices.Values(called(tie.Among))), Chosen: perm[tie.Chosen]})
	}
	return renamed
}

func sameNumber(x, y api.Ratio) bool {
	return x.Neg == y.Neg && slices.Equal(x.Num, y.Num) && slices.Equal(x.Den, y.Den)
}

// same reports whether two outcomes are equal in all fields.
func same(a, b api.Outcome) bool {
	return slices.Equal(a.Elected, b.Elected) && slices.EqualFunc(a.Rounds, b.Rounds, func(r, s api.Round) bool {
		return slices.EqualFunc(r.Had, s.Had, sameNumber) && sameNumber(r.Lost, s.Lost) && slices.Equal(r.Elected, s.Elected) && slices.Equal(r.Out, s.Out)
	}) && slices.EqualFunc(a.Ties, b.Ties, func(r, s api.Tie) bool { return slices.Equal(r.Among, s.Among) && r.Chosen == s.Chosen })
}

func twinNumber(x api.Ratio) api.Ratio {
	return api.Ratio{Neg: x.Neg, Num: slices.Clone(x.Num), Den: slices.Clone(x.Den)}
}

// twin returns o in memory of its own.
func twin(o api.Outcome) api.Outcome {
	copied := api.Outcome{Elected: slices.Clone(o.Elected)}
	for _, r := range o.Rounds {
		round := api.Round{Lost: twinNumber(r.Lost), Elected: slices.Clone(r.Elected), Out: slices.Clone(r.Out)}
		for _, n := range r.Had {
			round.Had = append(round.Had, twinNumber(n))
		}
		copied.Rounds = append(copied.Rounds, round)
	}
	for _, tie := range o.Ties {
		copied.Ties = append(copied.Ties, api.Tie{Among: slices.Clone(tie.Among), Chosen: tie.Chosen})
	}
	return copied
}

// upTo returns the numbers from 0 to n - 1.
func upTo(n int) []int {
	var l []int
	for i := range n {
		l = append(l, i)
	}
	return l
}

// downFrom returns the numbers from n - 1 to 0.
func downFrom(n int) []int {
	l := upTo(n)
	slices.Reverse(l)
	return l
}

// lots returns all permutations of n candidates.
func lots(n int) [][]int {
	if n == 0 {
		return [][]int{nil}
	}
	var all [][]int
	for _, l := range lots(n - 1) {
		for at := range n {
			all = append(all, slices.Insert(slices.Clone(l), at, n-1))
		}
	}
	return all
}

// wilds are numbers that are at a limit or beyond one.
func wilds() []int {
	return []int{math.MinInt, math.MinInt + 1, -1 << 62, -1 << 32, -1000000, -11, -10, -2, -1, 0, 1, 2, 3, 9, 10, 11, 12, 255, 256, 257, 500000, 500001, 999999, 1000000, 1000001, 1 << 31, 1<<32 - 1, 1 << 32, 1<<32 + 1, 1 << 62, math.MaxInt - 1000000, math.MaxInt - 1, math.MaxInt}
}

func randomWild(random *rand.Rand) int { return wilds()[random.Intn(len(wilds()))] }

// randomMatrix returns a matrix that is valid among so many candidates. In most of them few are level, so that the Smith set is often small.
func randomMatrix(random *rand.Rand, cands int) api.Pairs {
	var m api.Pairs
	most := []int{1, 3, 1000, 500000, 1000000}[random.Intn(5)]
	order := random.Perm(cands)
	upset := 1 + random.Intn(2*cands)
	for i, x := range order {
		for _, y := range order[:i] {
			n := random.Intn(most + 1)
			m[y][x], m[x][y] = n, random.Intn(min(n, most-n)+1)
			if random.Intn(upset) == 0 {
				m[x][y], m[y][x] = m[y][x], m[x][y]
			}
			if m[x][y] == m[y][x] && random.Intn(8) > 0 {
				m[y][x], m[x][y] = most, 0
			}
		}
	}
	return m
}

// spoiltMatrix returns m with a change, after which it often is not valid.
func spoiltMatrix(random *rand.Rand, m api.Pairs) api.Pairs {
	x, y := random.Intn(10), random.Intn(10)
	m[x][y] = randomWild(random)
	if random.Intn(3) == 0 {
		m[y][x] = randomWild(random)
	}
	return m
}

// randomMarks returns the marks of a valid ballot.
func randomMarks(random *rand.Rand, cands int, kind uint8) []int {
	if kind == 3 {
		var scores []int
		for range cands {
			scores = append(scores, []int{0, 0, 1, 5, 9, 10, 10, random.Intn(11)}[random.Intn(8)])
		}
		return scores
	}
	marks := random.Perm(cands)
	switch random.Intn(4) {
	case 0:
		marks = marks[:random.Intn(len(marks)+1)]
	case 1:
		marks = marks[:1]
	}
	if kind == 2 {
		slices.Sort(marks)
	}
	return marks
}

// randomProfile returns a valid profile, often with few ballots, so that candidates are tied.
func randomProfile(random *rand.Rand, cands int, kind uint8) api.Profile {
	p := of(cands, kind)
	most := []int{1, 4, 12, 40}[random.Intn(4)]
	many := []int{1, 2, 1000, 1000000 / 40}[random.Intn(4)]
	for range random.Intn(most + 1) {
		p.Rows = append(p.Rows, row(1+random.Intn(many), randomMarks(random, cands, kind)...))
	}
	slices.SortFunc(p.Rows, func(r, s api.Row) int { return slices.Compare(r.Marks, s.Marks) })
	p.Rows = slices.CompactFunc(p.Rows, func(r, s api.Row) bool { return slices.Equal(r.Marks, s.Marks) })
	return p
}

// evened returns a profile like p in which candidates are often tied: with each ballot there are those of a few candidates renamed in a circle.
func evened(random *rand.Rand, p api.Profile) api.Profile {
	circle := random.Perm(p.Cands)[:1+random.Intn(min(p.Cands, 4))]
	perm := upTo(p.Cands)
	for i, c := range circle {
		perm[c] = circle[(i+1)%len(circle)]
	}
	whole, turned := p, p
	for range len(circle) - 1 {
		var e api.Errno
		if turned, e = profile.Rename(turned, perm); e != api.OK {
			return p
		}
		if whole, e = profile.Sum(whole, turned); e != api.OK {
			return p
		}
	}
	return whole
}

// spoilt returns p with a change, after which it often is not valid.
func spoilt(random *rand.Rand, p api.Profile) api.Profile {
	p = profile.Twin(p)
	wild := randomWild(random)
	if len(p.Rows) == 0 {
		p.Rows = []api.Row{{Many: wild}}
	}
	at, other := random.Intn(len(p.Rows)), random.Intn(len(p.Rows))
	switch random.Intn(7) {
	case 0:
		p.Cands = wild
	case 1:
		p.Kind = uint8(random.Intn(5))
	case 2:
		p.Rows[at].Many = wild
	case 3:
		p.Rows[at].Marks = append(p.Rows[at].Marks, wild)
	case 4:
		p.Rows[at], p.Rows[other] = p.Rows[other], p.Rows[at]
	case 5:
		p.Rows = append(p.Rows, make([]api.Row, random.Intn(99))...)
	case 6:
		p.Cands = random.Intn(11)
	}
	return p
}

// spoiltLot returns the lot with a change, after which it often is none.
func spoiltLot(random *rand.Rand, lot []int) []int {
	lot = slices.Clone(lot)
	switch random.Intn(3) {
	case 0:
		lot[random.Intn(len(lot))] = randomWild(random)
	case 1:
		lot = lot[:random.Intn(len(lot))]
	case 2:
		lot = append(lot, randomWild(random))
	}
	return lot
}

// show returns a text of p, or of its start if it is long.
func show(p api.Profile) string {
	s := fmt.Sprintf("%d rows among %d of kind %d: %v", len(p.Rows), p.Cands, p.Kind, p.Rows[:min(len(p.Rows), 80)])
	return s[:min(len(s), 1000)]
}
