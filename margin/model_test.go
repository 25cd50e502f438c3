package margin_test

import (
	"math/big"
	"slices"

	"suffrage/api"
	"suffrage/count"
)

// The model follows the words of the document. Who is elected, and the errors of counts, it has from count.Run; points, votes, pairwise margins and the rounds of a runoff it finds out by itself.

// isMarks reports whether a ballot of the kind may have these marks.
func isMarks(marks []int, cands int, kind uint8) bool {
	if kind == 3 {
		return len(marks) == cands && !slices.ContainsFunc(marks, func(score int) bool { return score < 0 || score > 10 })
	}
	for i, c := range marks {
		if c < 0 || c >= cands || slices.Contains(marks[:i], c) || kind == 2 && i > 0 && marks[i-1] > c {
			return false
		}
	}
	return true
}

// modelPoints returns the points that a ballot gives a candidate by one of rules 1 to 4.
func modelPoints(rule uint8, cands int, marks []int, c int) int {
	points := 0
	switch rule {
	case 1:
		if slices.Equal(marks, []int{c}) {
			points = 1
		}
	case 2:
		for _, x := range marks {
			if x == c {
				points = 1
			}
		}
	case 3:
		points = marks[c]
	case 4: // one for each other candidate behind it; those that are not there are behind all that are
		for other := range cands {
			rank, otherRank := slices.Index(marks, c), slices.Index(marks, other)
			if rank >= 0 && (otherRank < 0 || otherRank > rank) {
				points++
			}
		}
	}
	return points
}

func modelGain(rule uint8, cands int, marks []int, w, x int) (int, api.Errno) {
	if rule < 1 || rule > 4 || cands < 2 || cands > 10 || w < 0 || w >= cands || x < 0 || x >= cands || w == x || !isMarks(marks, cands, kindOf(rule)) {
		return 0, api.ErrArg
	}
	switch rule {
	case 1:
		if slices.Equal(marks, []int{w}) {
			return 2, api.OK
		}
		if slices.Equal(marks, []int{x}) {
			return 0, api.OK
		}
		return 1, api.OK
	case 2:
		return modelPoints(2, cands, marks, w) + (1 - modelPoints(2, cands, marks, x)), api.OK
	case 3:
		return 10 - marks[x] + marks[w], api.OK
	}
	return cands - 1 - modelPoints(4, cands, marks, x) + modelPoints(4, cands, marks, w), api.OK
}

// sumOf returns the greatest sum of the gains of n ballots: gains are in descending order.
func sumOf(gains, counts []int, n int) *big.Int {
	sum := new(big.Int)
	for i, gain := range gains {
		taken := min(n, counts[i])
		sum.Add(sum, new(big.Int).Mul(big.NewInt(int64(gain)), big.NewInt(int64(taken))))
		n -= taken
	}
	return sum
}

func modelLeast(gains, counts []int, need int) (int, bool, api.Errno) {
	if len(gains) != len(counts) || len(gains) > 64 {
		return 0, false, api.ErrArg
	}
	all := 0
	for i := range gains {
		if gains[i] < 0 || gains[i] > million || counts[i] < 0 || counts[i] > million {
			return 0, false, api.ErrArg
		}
		all += counts[i]
	}
	type row struct{ gain, count int }
	var rows []row
	for i := range gains {
		rows = append(rows, row{gains[i], counts[i]})
	}
	slices.SortFunc(rows, func(r, s row) int { return s.gain - r.gain })
	var down, many []int
	for _, r := range rows {
		down, many = append(down, r.gain), append(many, r.count)
	}
	isEnough := func(n int) bool { return sumOf(down, many, n).Cmp(big.NewInt(int64(need))) >= 0 }
	if !isEnough(all) {
		return 0, false, api.OK
	}
	low, high := -1, all // high is enough, and low is not
	for high-low > 1 {
		if middle := (low + high) / 2; isEnough(middle) {
			high = middle
		} else {
			low = middle
		}
	}
	return high, true, api.OK
}

// halfUp returns the least number of which the double is at least n.
func halfUp(n int) int {
	t := n / 2
	for 2*t < n {
		t++
	}
	return t
}

// behind returns 1 if x comes before y in the lot.
func behind(lot []int, x, y int) int {
	for _, c := range lot {
		switch c {
		case x:
			return 1
		case y:
			return 0
		}
	}
	panic("not in the lot")
}

// modelPointsMargin returns the margin by one of rules 1 to 4.
func modelPointsMargin(rule uint8, p api.Profile, lot, elected []int) int {
	points := make([]int, p.Cands)
	for _, r := range p.Rows {
		for c := range points {
			points[c] += r.Many * modelPoints(rule, p.Cands, r.Marks, c)
		}
	}
	least := -1
	for w := range points {
		for x := range points {
			if !slices.Contains(elected, w) || slices.Contains(elected, x) {
				continue
			}
			var gains, counts []int
			for _, r := range p.Rows {
				gain, _ := modelGain(rule, p.Cands, r.Marks, w, x)
				gains, counts = append(gains, gain), append(counts, r.Many)
			}
			if n, ok, _ := modelLeast(gains, counts, points[w]-points[x]+behind(lot, w, x)); ok && (least < 0 || n < least) {
				least = n
			}
		}
	}
	return least
}

// modelVotesMargin returns the margin by a rule in which a party with s seats so far has the quotient of its votes by divisor(s).
func modelVotesMargin(p api.Profile, lot, elected []int, divisor func(seats int) int) int {
	votes, seats, all := make([]int, p.Cands), make([]int, p.Cands), 0
	for _, r := range p.Rows {
		all += r.Many
		if len(r.Marks) == 1 {
			votes[r.Marks[0]] += r.Many
		}
	}
	for _, c := range elected {
		seats[c]++
	}
	least := -1
	for x := range votes {
		for y := range votes {
			if x == y || seats[x] == 0 {
				continue
			}
			rest := all - votes[x] - votes[y]
			// overtakes reports whether y gets ahead if n ballots become votes for it: at first votes for x, which count twice.
			overtakes := func(n int) bool {
				left := max(0, votes[x]-n)
				mine := votes[y] + min(n, votes[x]+rest)
				a := new(big.Rat).SetFrac64(int64(left), int64(divisor(seats[x]-1)))
				b := new(big.Rat).SetFrac64(int64(mine), int64(divisor(seats[y])))
				return b.Cmp(a) >= behind(lot, x, y)
			}
			low, high := -1, all
			for high-low > 1 {
				if middle := (low + high) / 2; overtakes(middle) {
					high = middle
				} else {
					low = middle
				}
			}
			if least < 0 || high < least {
				least = high
			}
		}
	}
	return least
}

// prefer returns how many ballots prefer x to y.
func prefer(p api.Profile, x, y int) int {
	n := 0
	for _, r := range p.Rows {
		for _, c := range r.Marks {
			if c == x {
				n += r.Many
			}
			if c == x || c == y {
				break
			}
		}
	}
	return n
}

// modelPairwiseBound returns the bound for rules 5 to 8.
func modelPairwiseBound(p api.Profile) int {
	for w := range p.Cands {
		var margins []int
		for x := range p.Cands {
			if x != w {
				margins = append(margins, prefer(p, w, x)-prefer(p, x, w))
			}
		}
		if least := slices.Min(margins); least > 0 {
			return halfUp(least)
		}
	}
	return 1
}

// modelRunoffBound returns the bound for a runoff, whose rounds it goes through. It notes of which sort each decision is that is as close as the bound.
func modelRunoffBound(p api.Profile, lot []int) (int, []string) {
	least := 1 << 40
	var sorts []string
	note := func(sort string, n int) {
		if n = halfUp(n); n < least {
			least, sorts = n, nil
		}
		if n == least {
			sorts = append(sorts, sort)
		}
	}
	left := upTo(p.Cands)
	for {
		had, counting := make([]int, p.Cands), 0
		for _, r := range p.Rows {
			if i := slices.IndexFunc(r.Marks, func(c int) bool { return slices.Contains(left, c) }); i >= 0 {
				had[r.Marks[i]] += r.Many
				counting += r.Many
			}
		}
		for _, c := range left {
			if 2*had[c] > counting && len(left) > 1 {
				note("last", 2*had[c]-counting)
				return max(1, least), sorts
			}
		}
		if len(left) == 1 {
			return max(1, least), sorts
		}
		out := left[0]
		for _, c := range left {
			if had[c] < had[out] || had[c] == had[out] && behind(lot, out, c) == 1 {
				out = c
			}
		}
		for _, y := range left {
			if y != out {
				note([]string{"behind", "before"}[behind(lot, y, out)], had[y]-had[out]+behind(lot, y, out))
			}
			note("majority", 1+counting-2*had[y])
		}
		left = slices.DeleteFunc(left, func(c int) bool { return c == out })
	}
}

func modelOf(c api.Contest, p api.Profile, lot []int) (int, bool, api.Errno) {
	o, e := count.Run(c, p, lot)
	if e != api.OK {
		return 0, false, e
	}
	ballots := 0
	for _, r := range p.Rows {
		ballots += r.Many
	}
	if ballots == 0 || len(c.Cands) == 1 || c.Rule < 14 && c.Seats == len(c.Cands) {
		return 0, false, api.ErrNone
	}
	switch {
	case c.Rule <= 4:
		return modelPointsMargin(c.Rule, p, lot, o.Elected), true, api.OK
	case c.Rule == 14:
		return modelVotesMargin(p, lot, o.Elected, func(seats int) int { return seats + 1 }), true, api.OK
	case c.Rule == 15:
		return modelVotesMargin(p, lot, o.Elected, func(seats int) int { return 2*seats + 1 }), true, api.OK
	case c.Rule >= 5 && c.Rule <= 8:
		return modelPairwiseBound(p), false, api.OK
	case c.Rule == 9:
		n, _ := modelRunoffBound(p, lot)
		return n, false, api.OK
	}
	return 1, false, api.OK
}
