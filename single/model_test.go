package single_test

import (
	"cmp"
	"fmt"
	"math"
	"math/big"
	"math/rand"
	"slices"
	"strings"

	"suffrage/api"
	"suffrage/profile"
	"suffrage/single"
)

// The model follows the words of the document. Points are found by asking of each ballot and candidate, and added up without an end. Who gets a seat is found not seat by seat, but from one order of all candidates: by points, and among equals by the lot; the ties are then read off that order.

// method is one of the rules: the function, and what the document says of it.
type method struct {
	name  string
	do    func(p api.Profile, seats int, lot []int) (api.Outcome, api.Errno)
	kind  uint8
	gives func(marks []int, cands, c int) int
	lost  func(marks []int) bool
}

func methods() []method {
	return []method{plurality(), approval(), score(), borda()}
}

func plurality() method {
	return method{"Plurality", single.Plurality, 2, func(marks []int, _, c int) int {
		if slices.Equal(marks, []int{c}) {
			return 1
		}
		return 0
	}, func(marks []int) bool { return len(marks) == 0 || len(marks) > 1 }}
}

func approval() method {
	return method{"Approval", single.Approval, 2, func(marks []int, _, c int) int {
		return strings.Count(fmt.Sprint(" ", marks, " "), fmt.Sprint(c)) // there are no candidates of two digits
	}, never}
}

func score() method {
	return method{"Score", single.Score, 3, func(marks []int, _, c int) int { return marks[c] }, never}
}

func borda() method {
	return method{"Borda", single.Borda, 1, func(marks []int, cands, c int) int {
		points := 0
		for other := range cands {
			if other != c && modelBehind(marks, c, other) {
				points++
			}
		}
		return points
	}, never}
}

func never([]int) bool { return false }

// modelBehind reports whether a ranking ranks other after c.
func modelBehind(marks []int, c, other int) bool {
	switch at, otherAt := slices.Index(marks, c), slices.Index(marks, other); {
	case at < 0:
		return false
	case otherAt < 0:
		return true
	default:
		return otherAt > at
	}
}

// modelPoints returns the points of each candidate, and the number of ballots that are lost.
func (m method) modelPoints(p api.Profile) (points []*big.Int, lost *big.Int) {
	lost = new(big.Int)
	for c := range p.Cands {
		sum := new(big.Int)
		for _, row := range p.Rows {
			gives := big.NewInt(int64(m.gives(row.Marks, p.Cands, c)))
			sum.Add(sum, gives.Mul(gives, big.NewInt(int64(row.Many))))
		}
		points = append(points, sum)
	}
	for _, row := range p.Rows {
		if m.lost(row.Marks) {
			lost.Add(lost, big.NewInt(int64(row.Many)))
		}
	}
	return points, lost
}

// modelNumber returns a whole number of less than 33 bits that is not negative.
func modelNumber(n *big.Int) api.Ratio {
	if n.Sign() == 0 {
		return api.Ratio{Den: []uint32{1}}
	}
	if n.Sign() < 0 || n.BitLen() > 32 {
		panic("not of the model")
	}
	return api.Ratio{Num: []uint32{uint32(n.Uint64())}, Den: []uint32{1}}
}

func (m method) modelError(p api.Profile, seats int, lot []int) api.Errno {
	if profile.Check(p) != api.OK || p.Kind != m.kind {
		return api.ErrBad
	}
	if !slices.Contains(upTo(p.Cands + 1)[1:], seats) || !slices.Equal(slices.Sorted(slices.Values(lot)), upTo(p.Cands)) {
		return api.ErrArg
	}
	return api.OK
}

func (m method) model(p api.Profile, seats int, lot []int) (api.Outcome, api.Errno) {
	if e := m.modelError(p, seats, lot); e != api.OK {
		return api.Outcome{}, e
	}
	points, lost := m.modelPoints(p)
	order := upTo(p.Cands)
	slices.SortFunc(order, func(x, y int) int {
		return cmp.Or(points[y].Cmp(points[x]), cmp.Compare(slices.Index(lot, x), slices.Index(lot, y)))
	})
	var ties []api.Tie
	for i, c := range order[:seats] {
		among := slices.DeleteFunc(slices.Clone(order[i:]), func(x int) bool { return points[x].Cmp(points[c]) != 0 })
		slices.Sort(among)
		if len(among) > 1 {
			ties = append(ties, api.Tie{Among: among, Chosen: c})
		}
	}
	round := api.Round{Lost: modelNumber(lost), Elected: slices.Clone(order[:seats])}
	for _, n := range points {
		round.Had = append(round.Had, modelNumber(n))
	}
	return api.Outcome{Elected: order[:seats], Rounds: []api.Round{round}, Ties: ties}, api.OK
}

// modelRename returns the outcome in which candidate c is called perm[c].
func modelRename(o api.Outcome, perm []int) api.Outcome {
	called := func(l []int) []int {
		var names []int
		for _, c := range l {
			names = append(names, perm[c])
		}
		return names
	}
	renamed := api.Outcome{Elected: called(o.Elected)}
	for _, r := range o.Rounds {
		had := make([]api.Ratio, len(r.Had))
		for c, n := range r.Had {
			had[perm[c]] = n
		}
		renamed.Rounds = append(renamed.Rounds, api.Round{Had: had, Lost: r.Lost, Elected: called(r.Elected), Out: called(r.Out)})
	}
	for _, tie := range o.Ties {
		renamed.Ties = append(renamed.Ties, api.Tie{Among: slices.Sorted(slices.Values(called(tie.Among))), Chosen: perm[tie.Chosen]})
	}
	return renamed
}

func sameNumber(x, y api.Ratio) bool {
	return x.Neg == y.Neg && slices.Equal(x.Num, y.Num) && slices.Equal(x.Den, y.Den)
}

// same reports whether two outcomes are equal in all fields.
func same(a, b api.Outcome) bool {
	return slices.Equal(a.Elected, b.Elected) && slices.EqualFunc(a.Rounds, b.Rounds, func(r, s api.Round) bool {
		return slices.EqualFunc(r.Had, s.Had, sameNumber) && sameNumber(r.Lost, s.Lost) && slices.Equal(r.Elected, s.Elected) && slices.Equal(r.Out, s.Out)
	}) && slices.EqualFunc(a.Ties, b.Ties, func(r, s api.Tie) bool { return slices.Equal(r.Among, s.Among) && r.Chosen == s.Chosen })
}

func twinNumber(x api.Ratio) api.Ratio {
	return api.Ratio{Neg: x.Neg, Num: slices.Clone(x.Num), Den: slices.Clone(x.Den)}
}

// twin returns o in memory of its own.
func twin(o api.Outcome) api.Outcome {
	copied := api.Outcome{Elected: slices.Clone(o.Elected)}
	for _, r := range o.Rounds {
		round := api.Round{Lost: twinNumber(r.Lost), Elected: slices.Clone(r.Elected), Out: slices.Clone(r.Out)}
		for _, n := range r.Had {
			round.Had = append(round.Had, twinNumber(n))
		}
		copied.Rounds = append(copied.Rounds, round)
	}
	for _, tie := range o.Ties {
		copied.Ties = append(copied.Ties, api.Tie{Among: slices.Clone(tie.Among), Chosen: tie.Chosen})
	}
	return copied
}

// upTo returns the numbers from 0 to n - 1.
func upTo(n int) []int {
	var l []int
	for i := range n {
		l = append(l, i)
	}
	return l
}

// downFrom returns the numbers from n - 1 to 0.
func downFrom(n int) []int {
	l := upTo(n)
	slices.Reverse(l)
	return l
}

// lots returns all permutations of n candidates.
func lots(n int) [][]int {
	if n == 0 {
		return [][]int{nil}
	}
	var all [][]int
	for _, l := range lots(n - 1) {
		for at := range n {
			all = append(all, slices.Insert(slices.Clone(l), at, n-1))
		}
	}
	return all
}

// wilds are numbers that are at a limit or beyond one.
func wilds() []int {
	return []int{math.MinInt, math.MinInt + 1, -1 << 62, -1 << 32, -1000000, -11, -10, -2, -1, 0, 1, 2, 3, 9, 10, 11, 12, 255, 256, 257, 999999, 1000000, 1000001, 1 << 31, 1<<32 - 1, 1 << 32, 1<<32 + 1, 1 << 62, math.MaxInt - 1, math.MaxInt}
}

func randomWild(random *rand.Rand) int { return wilds()[random.Intn(len(wilds()))] }

// randomMarks returns the marks of a valid ballot.
func randomMarks(random *rand.Rand, cands int, kind uint8) []int {
	if kind == 3 {
		var scores []int
		for range cands {
			scores = append(scores, []int{0, 0, 1, 5, 9, 10, 10, random.Intn(11)}[random.Intn(8)])
		}
		return scores
	}
	marks := random.Perm(cands)
	switch random.Intn(3) {
	case 0:
		marks = marks[:random.Intn(len(marks)+1)]
	case 1:
		marks = marks[:1]
	}
	if kind == 2 {
		slices.Sort(marks)
	}
	return marks
}

// randomProfile returns a valid profile, often with few ballots, so that candidates are tied.
func randomProfile(random *rand.Rand, cands int, kind uint8) api.Profile {
	p := of(cands, kind)
	most := []int{1, 4, 12, 40}[random.Intn(4)]
	many := []int{1, 2, 1000, 1000000 / 40}[random.Intn(4)]
	for range random.Intn(most + 1) {
		p.Rows = append(p.Rows, row(1+random.Intn(many), randomMarks(random, cands, kind)...))
	}
	slices.SortFunc(p.Rows, func(r, s api.Row) int { return slices.Compare(r.Marks, s.Marks) })
	p.Rows = slices.CompactFunc(p.Rows, func(r, s api.Row) bool { return slices.Equal(r.Marks, s.Marks) })
	return p
}

// evened returns a profile like p in which candidates are often tied: with each ballot there is that of two candidates exchanged.
func evened(random *rand.Rand, p api.Profile) api.Profile {
	exchanged := upTo(p.Cands)
	x, y := random.Intn(p.Cands), random.Intn(p.Cands)
	exchanged[x], exchanged[y] = y, x
	q, e := profile.Rename(p, exchanged)
	if e != api.OK {
		return p
	}
	if sum, e := profile.Sum(p, q); e == api.OK {
		return sum
	}
	return p
}

// spoilt returns p with a change, after which it often is not valid.
func spoilt(random *rand.Rand, p api.Profile) api.Profile {
	p = profile.Twin(p)
	wild := randomWild(random)
	if len(p.Rows) == 0 {
		p.Rows = []api.Row{{Many: wild}}
	}
	at, other := random.Intn(len(p.Rows)), random.Intn(len(p.Rows))
	switch random.Intn(7) {
	case 0:
		p.Cands = wild
	case 1:
		p.Kind = uint8(random.Intn(5))
	case 2:
		p.Rows[at].Many = wild
	case 3:
		p.Rows[at].Marks = append(p.Rows[at].Marks, wild)
	case 4:
		p.Rows[at], p.Rows[other] = p.Rows[other], p.Rows[at]
	case 5:
		p.Rows = append(p.Rows, make([]api.Row, random.Intn(99))...)
	case 6:
		p.Cands = random.Intn(11)
	}
	return p
}

// spoiltLot returns the lot with a change, after which it often is none.
func spoiltLot(random *rand.Rand, lot []int) []int {
	lot = slices.Clone(lot)
	switch random.Intn(3) {
	case 0:
		lot[random.Intn(len(lot))] = randomWild(random)
	case 1:
		lot = lot[:random.Intn(len(lot))]
	case 2:
		lot = append(lot, randomWild(random))
	}
	return lot
}

// show returns a text of p, or of its start if it is long.
func show(p api.Profile) string {
	s := fmt.Sprintf("%d rows among %d of kind %d: %v", len(p.Rows), p.Cands, p.Kind, p.Rows[:min(len(p.Rows), 80)])
	return s[:min(len(s), 1000)]
}
