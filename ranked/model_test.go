package ranked_test

import (
	"fmt"
	"math"
	"math/big"
	"math/rand"
	"slices"

	"suffrage/api"
	"suffrage/profile"
	"suffrage/ranked"
)

// The model follows the words of the document. Whether a matrix is valid is found by asking of every entry; the links are put in order by looking for the first one again and again; whether they contain a path is found by marking whoever is reached until nothing changes, and which are locked, by keeping for each candidate whom locked links lead to; and who is elected, by going through the lot.

func modelAmong(cands int) bool {
	return slices.Contains([]int{1, 2, 3, 4, 5, 6, 7, 8, 9, 10}, cands)
}

// modelRight reports whether m is valid among cands candidates.
func modelRight(m api.Pairs, cands int) bool {
	wrong := 0
	for x := range 10 {
		for y := range 10 {
			if m[x][y] < 0 {
				wrong++
			}
			if (x == y || x >= cands || y >= cands) && m[x][y] != 0 {
				wrong++
			}
			if sum := big.NewInt(int64(m[x][y])); sum.Add(sum, big.NewInt(int64(m[y][x]))).Cmp(big.NewInt(1000000)) > 0 {
				wrong++
			}
		}
	}
	return wrong == 0 && modelAmong(cands)
}

// place returns the position of a candidate in the lot.
func place(lot []int, c int) int { return slices.Index(lot, c) }

// comesBefore reports whether a link comes before another one, by the four parts of the order.
func comesBefore(a, b api.Link, lot []int) bool {
	if a.Margin != b.Margin {
		return a.Margin > b.Margin
	}
	if a.For != b.For {
		return a.For > b.For
	}
	if a.From != b.From {
		return place(lot, a.From) < place(lot, b.From)
	}
	return place(lot, a.To) < place(lot, b.To)
}

// isLot reports whether the lot is a permutation of so many candidates.
func isLot(lot []int, cands int) bool {
	return len(lot) < 100 && slices.Equal(slices.Sorted(slices.Values(lot)), upTo(min(max(cands, 0), 100)))
}

func modelOrder(m api.Pairs, cands int, lot []int) ([]api.Link, api.Errno) {
	if !modelAmong(cands) || !isLot(lot, cands) {
		return nil, api.ErrArg
	}
	if !modelRight(m, cands) {
		return nil, api.ErrBad
	}
	var links, ordered []api.Link
	for x := range 10 {
		for y := range 10 {
			if m[x][y] > m[y][x] {
				links = append(links, api.Link{From: x, To: y, Margin: m[x][y] - m[y][x], For: m[x][y]})
			}
		}
	}
	for len(links) > 0 {
		first := 0
		for i := range links {
			if comesBefore(links[i], links[first], lot) {
				first = i
			}
		}
		ordered = append(ordered, links[first])
		links = slices.Delete(links, first, first+1)
	}
	return ordered, api.OK
}

// modelLeads marks where links from x lead, and whatever links from there lead to, until there is nothing more to mark.
func modelLeads(l []api.Link, x, y int) bool {
	reached := map[int]bool{}
	for before := -1; before != len(reached); {
		before = len(reached)
		for _, k := range l {
			if k.From == x || reached[k.From] {
				reached[k.To] = true
			}
		}
	}
	return reached[y]
}

// modelLock keeps for each candidate whom the locked links lead to.
func modelLock(m api.Pairs, cands int, lot []int) ([]api.Link, api.Errno) {
	links, e := modelOrder(m, cands, lot)
	if e != api.OK {
		return nil, e
	}
	var locked []api.Link
	var reach [10][10]bool
	for _, k := range links {
		if reach[k.To][k.From] {
			continue
		}
		locked = append(locked, k)
		for x := range 10 {
			for y := range 10 {
				if (x == k.From || reach[x][k.From]) && (y == k.To || reach[k.To][y]) {
					reach[x][y] = true
				}
			}
		}
	}
	return locked, api.OK
}

// others returns all candidates but c.
func others(cands, c int) []int {
	return slices.DeleteFunc(upTo(cands), func(o int) bool { return o == c })
}

// modelPreferring returns the number of rankings that prefer x to y.
func modelPreferring(p api.Profile, x, y int) int {
	many := 0
	for _, row := range p.Rows {
		for _, c := range row.Marks {
			if c == x {
				many += row.Many
			}
			if c == x || c == y {
				break
			}
		}
	}
	return many
}

// modelMatrix returns the matrix of a valid profile of rankings.
func modelMatrix(p api.Profile) api.Pairs {
	var m api.Pairs
	for x := range p.Cands {
		for _, y := range others(p.Cands, x) {
			m[x][y] = modelPreferring(p, x, y)
		}
	}
	return m
}

// modelNumber returns a whole number, which is less than 33 bits long and not negative, in its one form.
func modelNumber(n int) api.Ratio {
	switch {
	case n < 0 || n >= 1<<32:
		panic("not of the model")
	case n == 0:
		return api.Ratio{Den: []uint32{1}}
	default:
		return api.Ratio{Num: []uint32{uint32(n)}, Den: []uint32{1}}
	}
}

func modelError(p api.Profile, seats int, lot []int) api.Errno {
	if profile.Check(p) != api.OK || p.Kind != 1 {
		return api.ErrBad
	}
	if seats != 1 || !isLot(lot, p.Cands) {
		return api.ErrArg
	}
	return api.OK
}

func modelCount(p api.Profile, seats int, lot []int) (api.Outcome, api.Errno) {
	if e := modelError(p, seats, lot); e != api.OK {
		return api.Outcome{}, e
	}
	locked, _ := modelLock(modelMatrix(p), p.Cands, lot)
	had := make([]int, p.Cands)
	undefeated := slices.Clone(lot)
	for _, k := range locked {
		had[k.From]++
		undefeated = slices.DeleteFunc(undefeated, func(c int) bool { return c == k.To })
	}
	if len(undefeated) == 1 {
		return outcome(had, undefeated[0]), api.OK
	}
	return outcome(had, undefeated[0], tie(undefeated[0], slices.Sorted(slices.Values(undefeated))...)), api.OK
}

// modelRenameLinks returns the links, or the locked ones, in which candidate c is called perm[c].
func modelRenameLinks(l []api.Link, perm []int) []api.Link {
	var renamed []api.Link
	for _, k := range l {
		renamed = append(renamed, api.Link{From: perm[k.From], To: perm[k.To], Margin: k.Margin, For: k.For})
	}
	return renamed
}

// modelRename returns the outcome in which candidate c is called perm[c].
func modelRename(o api.Outcome, perm []int) api.Outcome {
	called := func(l []int) []int {
		var names []int
		for _, c := range l {
			names = append(names, perm[c])
		}
		return names
	}
	renamed := api.Outcome{Elected: called(o.Elected)}
	for _, r := range o.Rounds {
		had := make([]api.Ratio, len(r.Had))
		for c, n := range r.Had {
			had[perm[c]] = n
		}
		renamed.Rounds = append(renamed.Rounds, api.Round{Had: had, Lost: r.Lost, Elected: called(r.Elected), Out: called(r.Out)})
	}
	for _, tie := range o.Ties {
		renamed.Ties = append(renamed.Ties, api.Tie{Among: slices.Sorted(slices.Values(called(tie.Among))), Chosen: perm[tie.Chosen]})
	}
	return renamed
}

// modelRenameMatrix returns the matrix in which candidate c is called perm[c].
func modelRenameMatrix(m api.Pairs, perm []int) api.Pairs {
	var renamed api.Pairs
	for x := range perm {
		for y := range perm {
			renamed[perm[x]][perm[y]] = m[x][y]
		}
	}
	return renamed
}

func sameNumber(x, y api.Ratio) bool {
	return x.Neg == y.Neg && slices.Equal(x.Num, y.Num) && slices.Equal(x.Den, y.Den)
}

// same reports whether two outcomes are equal in all fields.
func same(a, b api.Outcome) bool {
	return slices.Equal(a.Elected, b.Elected) && slices.EqualFunc(a.Rounds, b.Rounds, func(r, s api.Round) bool {
		return slices.EqualFunc(r.Had, s.Had, sameNumber) && sameNumber(r.Lost, s.Lost) && slices.Equal(r.Elected, s.Elected) && slices.Equal(r.Out, s.Out)
	}) && slices.EqualFunc(a.Ties, b.Ties, func(r, s api.Tie) bool { return slices.Equal(r.Among, s.Among) && r.Chosen == s.Chosen })
}

func twinNumber(x api.Ratio) api.Ratio {
	return api.Ratio{Neg: x.Neg, Num: slices.Clone(x.Num), Den: slices.Clone(x.Den)}
}

// twin returns o in memory of its own.
func twin(o api.Outcome) api.Outcome {
	copied := api.Outcome{Elected: slices.Clone(o.Elected)}
	for _, r := range o.Rounds {
		round := api.Round{Lost: twinNumber(r.Lost), Elected: slices.Clone(r.Elected), Out: slices.Clone(r.Out)}
		for _, n := range r.Had {
			round.Had = append(round.Had, twinNumber(n))
		}
		copied.Rounds = append(copied.Rounds, round)
	}
	for _, tie := range o.Ties {
		copied.Ties = append(copied.Ties, api.Tie{Among: slices.Clone(tie.Among), Chosen: tie.Chosen})
	}
	return copied
}

// upTo returns the numbers from 0 to n - 1.
func upTo(n int) []int {
	var l []int
	for i := range n {
		l = append(l, i)
	}
	return l
}

// downFrom returns the numbers from n - 1 to 0.
func downFrom(n int) []int { return reversed(upTo(n)) }

func reversed(l []int) []int {
	l = slices.Clone(l)
	slices.Reverse(l)
	return l
}

// lots returns all permutations of n candidates.
func lots(n int) [][]int {
	if n == 0 {
		return [][]int{nil}
	}
	var all [][]int
	for _, l := range lots(n - 1) {
		for at := range n {
			all = append(all, slices.Insert(slices.Clone(l), at, n-1))
		}
	}
	return all
}

// wilds are numbers that are at a limit or beyond one.
func wilds() []int {
	return []int{math.MinInt, math.MinInt + 1, -1 << 62, -1 << 32, -1000000, -11, -10, -2, -1, 0, 1, 2, 3, 9, 10, 11, 12, 255, 256, 257, 500000, 500001, 999999, 1000000, 1000001, 1 << 31, 1<<32 - 1, 1 << 32, 1<<32 + 1, 1 << 62, math.MaxInt - 1000000, math.MaxInt - 1, math.MaxInt}
}

func randomWild(random *rand.Rand) int { return wilds()[random.Intn(len(wilds()))] }

// randomMatrix returns a matrix that is valid among so many candidates. Its links are few or many, with margins that are often equal, and lead forth in an order more often than back, so that there are long cycles and candidates in none.
func randomMatrix(random *rand.Rand, cands int) api.Pairs {
	var m api.Pairs
	most := []int{1, 3, 7, 1000, 1000000}[random.Intn(5)]
	level, back := random.Intn(10), 1+random.Intn(9)
	order := random.Perm(cands)
	for i, y := range order {
		for _, x := range order[:i] {
			n, less := random.Intn(most)+1, 0
			if random.Intn(10) < 5 {
				less = random.Intn(min(n-1, most-n) + 1)
			}
			if random.Intn(10) < level {
				n = random.Intn(most/2 + 1)
				less = n
			}
			m[x][y], m[y][x] = n, less
			if random.Intn(back) == 0 {
				m[x][y], m[y][x] = less, n
			}
		}
	}
	return m
}

// spoiltMatrix returns m with a change, after which it often is not valid.
func spoiltMatrix(random *rand.Rand, m api.Pairs) api.Pairs {
	x, y := random.Intn(10), random.Intn(10)
	m[x][y] = randomWild(random)
	if random.Intn(3) == 0 {
		m[y][x] = randomWild(random)
	}
	return m
}

func link(from, to, margin, ballots int) api.Link {
	return api.Link{From: from, To: to, Margin: margin, For: ballots}
}

// step returns a link without numbers.
func step(from, to int) api.Link { return api.Link{From: from, To: to} }

// randomLinks returns links, few or many, between numbers that are few or many, and of which some are no candidates. Their margins and numbers are any.
func randomLinks(random *rand.Rand) []api.Link {
	names := []int{}
	for range 1 + random.Intn(9) {
		names = append(names, random.Intn(10))
	}
	if random.Intn(3) == 0 {
		names = append(names, randomWild(random), randomWild(random))
	}
	var l []api.Link
	for range random.Intn(1 + 2*len(names)) {
		k := api.Link{From: names[random.Intn(len(names))], To: names[random.Intn(len(names))]}
		if random.Intn(2) == 0 {
			k.Margin, k.For = randomWild(random), randomWild(random)
		}
		l = append(l, k)
	}
	return l
}

// randomMarks returns the marks of a valid ballot.
func randomMarks(random *rand.Rand, cands int, kind uint8) []int {
	if kind == 3 {
		var scores []int
		for range cands {
			scores = append(scores, []int{0, 0, 1, 5, 9, 10, 10, random.Intn(11)}[random.Intn(8)])
		}
		return scores
	}
	marks := random.Perm(cands)
	switch random.Intn(4) {
	case 0:
		marks = marks[:random.Intn(len(marks)+1)]
	case 1:
		marks = marks[:1]
	}
	if kind == 2 {
		slices.Sort(marks)
	}
	return marks
}

// randomProfile returns a valid profile, often with few ballots, so that candidates are tied.
func randomProfile(random *rand.Rand, cands int, kind uint8) api.Profile {
	p := of(cands, kind)
	most := []int{1, 4, 12, 40}[random.Intn(4)]
	many := []int{1, 2, 1000, 1000000 / 40}[random.Intn(4)]
	for range random.Intn(most + 1) {
		p.Rows = append(p.Rows, row(1+random.Intn(many), randomMarks(random, cands, kind)...))
	}
	slices.SortFunc(p.Rows, func(r, s api.Row) int { return slices.Compare(r.Marks, s.Marks) })
	p.Rows = slices.CompactFunc(p.Rows, func(r, s api.Row) bool { return slices.Equal(r.Marks, s.Marks) })
	return p
}

// evened returns a profile like p in which candidates are often tied: with each ballot there are those of a few candidates renamed in a circle.
func evened(random *rand.Rand, p api.Profile) api.Profile {
	circle := random.Perm(p.Cands)[:1+random.Intn(min(p.Cands, 4))]
	perm := upTo(p.Cands)
	for i, c := range circle {
		perm[c] = circle[(i+1)%len(circle)]
	}
	whole, turned := p, p
	for range len(circle) - 1 {
		var e api.Errno
		if turned, e = profile.Rename(turned, perm); e != api.OK {
			return p
		}
		if whole, e = profile.Sum(whole, turned); e != api.OK {
			return p
		}
	}
	return whole
}

// leaning returns a valid profile in which most ballots are close to one ranking, so that there often are a winner and candidates far behind.
func leaning(random *rand.Rand) api.Profile {
	cands := 1 + random.Intn(10)
	p := randomProfile(random, cands, api.KindRank)
	order := random.Perm(cands)
	for range random.Intn(10) {
		marks := slices.Clone(order)
		at, other := random.Intn(cands), random.Intn(cands)
		marks[at], marks[other] = marks[other], marks[at]
		if more, e := profile.Add(p, api.Ballot{Kind: 1, Marks: marks[:1+random.Intn(cands)]}, 1+random.Intn(20)); e == api.OK {
			p = more
		}
	}
	if random.Intn(3) == 0 {
		p = evened(random, p)
	}
	return p
}

// spoilt returns p with a change, after which it often is not valid.
func spoilt(random *rand.Rand, p api.Profile) api.Profile {
	p = profile.Twin(p)
	wild := randomWild(random)
	if len(p.Rows) == 0 {
		p.Rows = []api.Row{{Many: wild}}
	}
	at, other := random.Intn(len(p.Rows)), random.Intn(len(p.Rows))
	switch random.Intn(7) {
	case 0:
		p.Cands = wild
	case 1:
		p.Kind = uint8(random.Intn(5))
	case 2:
		p.Rows[at].Many = wild
	case 3:
		p.Rows[at].Marks = append(p.Rows[at].Marks, wild)
	case 4:
		p.Rows[at], p.Rows[other] = p.Rows[other], p.Rows[at]
	case 5:
		p.Rows = append(p.Rows, make([]api.Row, random.Intn(99))...)
	case 6:
		p.Cands = random.Intn(11)
	}
	return p
}

// spoiltLot returns the lot with a change, after which it often is none.
func spoiltLot(random *rand.Rand, lot []int) []int {
	lot = slices.Clone(lot)
	switch random.Intn(3) {
	case 0:
		lot[random.Intn(len(lot))] = randomWild(random)
	case 1:
		lot = lot[:random.Intn(len(lot))]
	case 2:
		lot = append(lot, randomWild(random))
	}
	return lot
}

// show returns a text of p, or of its start if it is long.
func show(p api.Profile) string {
	s := fmt.Sprintf("%d rows among %d of kind %d: %v", len(p.Rows), p.Cands, p.Kind, p.Rows[:min(len(p.Rows), 80)])
	return s[:min(len(s), 1000)]
}

// The checks

func row(many int, marks ...int) api.Row { return api.Row{Marks: marks, Many: many} }

// of returns a profile with rows, valid or not.
func of(cands int, kind uint8, rows ...api.Row) api.Profile {
	return api.Profile{Cands: cands, Kind: kind, Rows: rows}
}

// ranks returns a profile of rankings.
func ranks(cands int, rows ...api.Row) api.Profile { return of(cands, 1, rows...) }

// sorted returns a profile of rankings, with its rows in order.
func sorted(cands int, rows ...api.Row) api.Profile {
	slices.SortFunc(rows, func(r, s api.Row) int { return slices.Compare(r.Marks, s.Marks) })
	return ranks(cands, rows...)
}

// tie returns a decision by lot.
func tie(chosen int, among ...int) api.Tie { return api.Tie{Among: among, Chosen: chosen} }

// outcome returns the outcome with these numbers.
func outcome(had []int, elected int, ties ...api.Tie) api.Outcome {
	round := api.Round{Lost: modelNumber(0), Elected: []int{elected}}
	for _, n := range had {
		round.Had = append(round.Had, modelNumber(n))
	}
	return api.Outcome{Elected: []int{elected}, Rounds: []api.Round{round}, Ties: ties}
}

// ordered returns the links of a matrix that is valid among the candidates, in order.
func ordered(m api.Pairs, lot []int) []api.Link {
	l, e := ranked.Order(m, len(lot), lot)
	if e != api.OK {
		panic(fmt.Sprint("the order of ", m, ", lot ", lot, ", has error ", int(e)))
	}
	return l
}

// locked returns the locked ones of them.
func locked(m api.Pairs, lot []int) []api.Link {
	l, e := ranked.Lock(m, len(lot), lot)
	if e != api.OK {
		panic(fmt.Sprint("the locked links of ", m, ", lot ", lot, ", have error ", int(e)))
	}
	return l
}
