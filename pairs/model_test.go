package pairs_test

import (
	"fmt"
	"math"
	"math/big"
	"math/rand"
	"slices"

	"suffrage/api"
	"suffrage/profile"
)

// The model follows the words of the document: a ballot puts each candidate on a level, a matrix is valid if nothing is wrong with any pair of its entries, and sums are taken of numbers without an end.

// modelLevels returns how far each candidate stands from the top of a valid ballot; candidates of one level are not preferred to each other.
func modelLevels(b api.Ballot, cands int) []int {
	levels := make([]int, cands)
	for c := range levels {
		at := slices.Index(b.Marks, c)
		switch {
		case b.Kind == 3:
			levels[c] = 10 - b.Marks[c]
		case at < 0:
			levels[c] = 100
		case b.Kind == 1:
			levels[c] = at
		}
	}
	return levels
}

func modelOf(p api.Profile) (api.Pairs, api.Errno) {
	var m api.Pairs
	if e := profile.Check(p); e != api.OK {
		return m, e
	}
	for _, row := range p.Rows {
		levels := modelLevels(api.Ballot{Kind: p.Kind, Marks: row.Marks}, p.Cands)
		for x, high := range levels {
			for y, low := range levels {
				if high < low {
					m[x][y] += row.Many
				}
			}
		}
	}
	return m, api.OK
}

// modelPlus returns the sum of any two numbers.
func modelPlus(a, b int) *big.Int {
	sum := big.NewInt(int64(a))
	return sum.Add(sum, big.NewInt(int64(b)))
}

func modelAmong(cands int) bool {
	return slices.Contains([]int{1, 2, 3, 4, 5, 6, 7, 8, 9, 10}, cands)
}

func modelRight(m api.Pairs, cands int) bool {
	wrong := 0
	for x := range 10 {
		for y := range 10 {
			if m[x][y] < 0 {
				wrong++
			}
			if (x == y || x >= cands || y >= cands) && m[x][y] != 0 {
				wrong++
			}
			if modelPlus(m[x][y], m[y][x]).Cmp(big.NewInt(1000000)) > 0 {
				wrong++
			}
		}
	}
	return wrong == 0 && modelAmong(cands)
}

func modelMargin(m api.Pairs, x, y int) int {
	if !slices.Contains(upTo(10), x) || !slices.Contains(upTo(10), y) || !modelRight(m, 10) {
		return 0
	}
	margin := modelPlus(0, m[x][y])
	return int(margin.Sub(margin, modelPlus(0, m[y][x])).Int64())
}

func modelBeats(m api.Pairs, x, y int) bool { return modelMargin(m, x, y) >= 1 }

func modelSum(a, b api.Pairs) (api.Pairs, api.Errno) {
	if !(modelRight(a, 10) && modelRight(b, 10)) {
		return api.Pairs{}, api.ErrBad
	}
	var sum api.Pairs
	for x := range 10 {
		for y := range 10 {
			sum[x][y] = int(modelPlus(a[x][y], b[x][y]).Int64())
		}
	}
	if !modelRight(sum, 10) {
		return api.Pairs{}, api.ErrMany
	}
	return sum, api.OK
}

func modelTurn(m api.Pairs) api.Pairs {
	var turned api.Pairs
	for x := range 10 {
		for y := range 10 {
			turned[y][x] = m[x][y]
		}
	}
	return turned
}

func modelRename(m api.Pairs, perm []int) (api.Pairs, api.Errno) {
	if !slices.Equal(slices.Sorted(slices.Values(perm)), upTo(len(perm))) || !modelAmong(len(perm)) {
		return api.Pairs{}, api.ErrArg
	}
	if !modelRight(m, len(perm)) {
		return api.Pairs{}, api.ErrBad
	}
	var renamed api.Pairs
	for x := range perm {
		for y := range perm {
			renamed[x][y] = m[slices.Index(perm, x)][slices.Index(perm, y)]
		}
	}
	return renamed, api.OK
}

func modelWins(m api.Pairs, cands int) ([]int, api.Errno) {
	if !modelAmong(cands) {
		return nil, api.ErrArg
	}
	if !modelRight(m, cands) {
		return nil, api.ErrBad
	}
	var wins []int
	for x := range cands {
		beaten := slices.DeleteFunc(upTo(cands), func(y int) bool { return modelPlus(m[x][y], 0).Cmp(modelPlus(m[y][x], 0)) <= 0 })
		wins = append(wins, len(beaten))
	}
	return wins, api.OK
}

// modelInverse returns the inverse of a permutation.
func modelInverse(perm []int) []int {
	inverse := make([]int, len(perm))
	for c, name := range perm {
		inverse[name] = c
	}
	return inverse
}

// upTo returns the numbers from 0 to n - 1.
func upTo(n int) []int {
	var l []int
	for i := range n {
		l = append(l, i)
	}
	return l
}

// wilds are numbers that are at a limit or beyond one.
func wilds() []int {
	return []int{math.MinInt, math.MinInt + 1, -1 << 62, -1 << 32, -1000000, -10, -1, 0, 1, 2, 9, 10, 11, 255, 256, 257, 500000, 999999, 1000000, 1000001, 1 << 31, 1<<32 - 1, 1 << 32, 1<<32 + 1, 1 << 62, math.MaxInt - 1000000, math.MaxInt - 1, math.MaxInt}
}

func randomWild(random *rand.Rand) int { return wilds()[random.Intn(len(wilds()))] }

// randomMatrix returns a matrix that is valid among so many candidates, with many entries that are 0, equal, or at the limit together.
func randomMatrix(random *rand.Rand, cands int) api.Pairs {
	var m api.Pairs
	most := []int{1, 3, 1000, 500000, 1000000}[random.Intn(5)]
	for x := range cands {
		for y := range x {
			n := random.Intn(most + 1)
			switch random.Intn(4) {
			case 0:
				m[x][y], m[y][x] = n, most-n
			case 1:
				m[x][y], m[y][x] = n/2, n/2
			case 2:
				m[x][y], m[y][x] = 0, n
			}
		}
	}
	return m
}

// spoiltMatrix returns m with a change, after which it often is not valid.
func spoiltMatrix(random *rand.Rand, m api.Pairs) api.Pairs {
	x, y := random.Intn(10), random.Intn(10)
	m[x][y] = randomWild(random)
	if random.Intn(3) == 0 {
		m[y][x] = randomWild(random)
	}
	return m
}

// randomMarks returns the marks of a valid ballot.
func randomMarks(random *rand.Rand, cands int, kind uint8) []int {
	if kind == 3 {
		var scores []int
		for range cands {
			scores = append(scores, random.Intn(11)/4*5)
		}
		return scores
	}
	marks := random.Perm(cands)
	marks = marks[:random.Intn(len(marks)+1)]
	if kind == 2 {
		slices.Sort(marks)
	}
	return marks
}

// randomRows returns up to most rows of valid ballots in order, with up to about 500,000 ballots in all.
func randomRows(random *rand.Rand, cands int, kind uint8, most int) []api.Row {
	var rows []api.Row
	for range random.Intn(most + 1) {
		rows = append(rows, api.Row{Marks: randomMarks(random, cands, kind), Many: 1 + random.Intn([]int{1, 3, 1000, 500000 / most}[random.Intn(4)])})
	}
	slices.SortFunc(rows, func(r, s api.Row) int { return slices.Compare(r.Marks, s.Marks) })
	return slices.CompactFunc(rows, func(r, s api.Row) bool { return slices.Equal(r.Marks, s.Marks) })
}

// randomProfile returns a valid profile.
func randomProfile(random *rand.Rand) api.Profile {
	p := api.Profile{Cands: 1 + random.Intn(10), Kind: uint8(1 + random.Intn(3))}
	return likeProfile(random, p)
}

// likeProfile returns a valid profile among the same candidates and of the same kind as p.
func likeProfile(random *rand.Rand, p api.Profile) api.Profile {
	return api.Profile{Cands: p.Cands, Kind: p.Kind, Rows: randomRows(random, p.Cands, p.Kind, []int{1, 5, 30}[random.Intn(3)])}
}

// spoiltProfile returns p with a change, after which it often is not valid.
func spoiltProfile(random *rand.Rand, p api.Profile) api.Profile {
	p = copied(p)
	wild := randomWild(random)
	if len(p.Rows) == 0 {
		p.Rows = []api.Row{{Many: wild}}
	}
	at, other := random.Intn(len(p.Rows)), random.Intn(len(p.Rows))
	switch random.Intn(7) {
	case 0:
		p.Cands = wild
	case 1:
		p.Kind = uint8(random.Intn(5))
	case 2:
		p.Rows[at].Many = wild
	case 3:
		p.Rows[at].Marks = append(p.Rows[at].Marks, wild)
	case 4:
		p.Rows[at], p.Rows[other] = p.Rows[other], p.Rows[at]
	case 5:
		p.Rows = append(p.Rows, make([]api.Row, random.Intn(99))...)
	case 6:
		p.Cands = random.Intn(11)
	}
	return p
}

// copied returns p in memory of its own.
func copied(p api.Profile) api.Profile {
	p.Rows = slices.Clone(p.Rows)
	for i := range p.Rows {
		p.Rows[i].Marks = slices.Clone(p.Rows[i].Marks)
	}
	return p
}

// show returns a text of p, or of its start if it is long.
func show(p api.Profile) string {
	s := fmt.Sprintf("%d rows among %d of kind %d: %v", len(p.Rows), p.Cands, p.Kind, p.Rows[:min(len(p.Rows), 80)])
	return s[:min(len(s), 1000)]
}
