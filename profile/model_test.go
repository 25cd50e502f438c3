package profile_test

import (
	"encoding/binary"
	"fmt"
	"maps"
	"math"
	"math/big"
	"math/rand"
	"slices"

	"suffrage/api"
	"suffrage/ballot"
)

// The model follows the words of the document: the ballots of a profile are a bag, which knows how many there are of each, and sums are taken of numbers without an end.

// bag has, for the key of the marks of a ballot, the number of such ballots; a key without ballots is not in it.
type bag map[string]*big.Int

// modelKey returns a byte string for each list of marks, such that the byte strings have the order of the lists.
func modelKey(marks []int) string {
	var key []byte
	for _, mark := range marks {
		key = binary.BigEndian.AppendUint64(key, uint64(mark)^1<<63) // negative marks before the others
	}
	return string(key)
}

// modelMarks returns the marks with a key.
func modelMarks(key string) []int {
	var marks []int
	for ; key != ""; key = key[8:] {
		marks = append(marks, int(binary.BigEndian.Uint64([]byte(key))^1<<63))
	}
	return marks
}

// change adds so many ballots to the bag, or removes them if many is negative.
func (b bag) change(marks []int, many *big.Int) {
	key := modelKey(marks)
	n := new(big.Int)
	if b[key] != nil {
		n.Set(b[key])
	}
	n.Add(n, many)
	if b[key] = n; n.Sign() == 0 {
		delete(b, key)
	}
}

// changeAll adds the ballots of a profile so many times.
func (b bag) changeAll(p api.Profile, times int) {
	for _, row := range p.Rows {
		b.change(row.Marks, big.NewInt(int64(row.Many*times)))
	}
}

// many returns the number of ballots.
func (b bag) many() *big.Int {
	n := new(big.Int)
	for _, many := range b {
		n.Add(n, many)
	}
	return n
}

// lacks reports whether there are fewer than no ballots of some marks.
func (b bag) lacks() bool {
	for _, many := range b {
		if many.Sign() < 0 {
			return true
		}
	}
	return false
}

// profile returns the profile with the ballots of the bag, or the error if it is beyond the limits.
func (b bag) profile(cands int, kind uint8) (api.Profile, api.Errno) {
	if len(b) > 64 {
		return api.Profile{}, api.ErrFull
	}
	if b.many().Cmp(big.NewInt(1000000)) > 0 {
		return api.Profile{}, api.ErrMany
	}
	p := api.Profile{Cands: cands, Kind: kind}
	for _, key := range slices.Sorted(maps.Keys(b)) {
		p.Rows = append(p.Rows, api.Row{Marks: modelMarks(key), Many: int(b[key].Int64())})
	}
	return p, api.OK
}

func modelSame(p, q api.Profile) bool { return fmt.Sprint(p) == fmt.Sprint(q) }

// modelRows reports whether each row of p is right, and its place in the order is.
func modelRows(p api.Profile) bool {
	for i, row := range p.Rows {
		right := ballot.Check(api.Ballot{Kind: p.Kind, Marks: row.Marks}, p.Cands) == api.OK && row.Many >= 1
		if !right || i > 0 && modelKey(p.Rows[i-1].Marks) >= modelKey(row.Marks) {
			return false
		}
	}
	return true
}

func modelParameters(cands int, kind uint8) bool {
	return slices.Contains([]int{1, 2, 3, 4, 5, 6, 7, 8, 9, 10}, cands) && slices.Contains([]uint8{1, 2, 3}, kind)
}

func modelCheck(p api.Profile) api.Errno {
	if len(p.Rows) > 64 {
		return api.ErrFull
	}
	if !modelParameters(p.Cands, p.Kind) || !modelRows(p) {
		return api.ErrBad
	}
	many := new(big.Int)
	for _, row := range p.Rows {
		many.Add(many, big.NewInt(int64(row.Many)))
	}
	if many.Cmp(big.NewInt(1000000)) > 0 {
		return api.ErrMany
	}
	return api.OK
}

func modelNew(cands int, kind uint8) (api.Profile, api.Errno) {
	if !modelParameters(cands, kind) {
		return api.Profile{}, api.ErrArg
	}
	return api.Profile{Cands: cands, Kind: kind}, api.OK
}

// modelChange adds many ballots b to p or, if sign is -1, removes them.
func modelChange(p api.Profile, b api.Ballot, many, sign int) (api.Profile, api.Errno) {
	if e := modelCheck(p); e != api.OK {
		return api.Profile{}, e
	}
	if b.Kind != p.Kind || ballot.Check(b, p.Cands) != api.OK {
		return api.Profile{}, api.ErrBad
	}
	if many < 1 {
		return api.Profile{}, api.ErrArg
	}
	all := bag{}
	all.changeAll(p, 1)
	change := big.NewInt(int64(many))
	all.change(b.Marks, change.Mul(change, big.NewInt(int64(sign))))
	if all.lacks() {
		return api.Profile{}, api.ErrNone
	}
	return all.profile(p.Cands, p.Kind)
}

func modelAdd(p api.Profile, b api.Ballot, many int) (api.Profile, api.Errno) {
	return modelChange(p, b, many, 1)
}

func modelTake(p api.Profile, b api.Ballot, many int) (api.Profile, api.Errno) {
	return modelChange(p, b, many, -1)
}

func modelMake(cands int, kind uint8, l []api.Ballot) (api.Profile, api.Errno) {
	p, e := modelNew(cands, kind)
	for _, b := range l {
		if e == api.OK {
			p, e = modelAdd(p, b, 1)
		}
	}
	return p, e
}

// modelCombine adds the ballots of q to p or, if sign is -1, removes them.
func modelCombine(p, q api.Profile, sign int) (api.Profile, api.Errno) {
	for _, x := range []api.Profile{p, q} {
		if e := modelCheck(x); e != api.OK {
			return api.Profile{}, e
		}
	}
	if p.Kind != q.Kind || p.Cands != q.Cands {
		return api.Profile{}, api.ErrBad
	}
	all := bag{}
	all.changeAll(p, 1)
	all.changeAll(q, sign)
	if all.lacks() {
		return api.Profile{}, api.ErrNone
	}
	return all.profile(p.Cands, p.Kind)
}

func modelSum(p, q api.Profile) (api.Profile, api.Errno) { return modelCombine(p, q, 1) }

func modelMinus(p, q api.Profile) (api.Profile, api.Errno) { return modelCombine(p, q, -1) }

// modelCount returns the number of ballots with at least so many marks.
func modelCount(p api.Profile, marks int) (int, api.Errno) {
	if e := modelCheck(p); e != api.OK {
		return 0, e
	}
	n := 0
	for _, row := range p.Rows {
		if len(row.Marks) >= marks {
			n += row.Many
		}
	}
	return n, api.OK
}

// modelTurn returns the profile of what change makes of each ballot.
func modelTurn(p api.Profile, change func(b api.Ballot) api.Ballot) (api.Profile, api.Errno) {
	all := bag{}
	for _, row := range p.Rows {
		b := change(api.Ballot{Kind: p.Kind, Marks: row.Marks})
		all.change(b.Marks, big.NewInt(int64(row.Many)))
	}
	return all.profile(p.Cands, p.Kind)
}

func modelKeep(p api.Profile, left []bool) (api.Profile, api.Errno) {
	if e := modelCheck(p); e != api.OK {
		return api.Profile{}, e
	}
	return modelTurn(p, func(b api.Ballot) api.Ballot { return ballot.Keep(b, left) })
}

func modelRename(p api.Profile, perm []int) (api.Profile, api.Errno) {
	if e := modelCheck(p); e != api.OK {
		return api.Profile{}, e
	}
	if !slices.Equal(slices.Sorted(slices.Values(perm)), upTo(p.Cands)) {
		return api.Profile{}, api.ErrArg
	}
	return modelTurn(p, func(b api.Ballot) api.Ballot {
		renamed, _ := ballot.Rename(b, perm)
		return renamed
	})
}

// modelInverse returns the inverse of a permutation.
func modelInverse(perm []int) []int {
	inverse := make([]int, len(perm))
	for c, name := range perm {
		inverse[name] = c
	}
	return inverse
}

// randomMarks returns the marks of a valid ballot. There are few of them, so that the same come often.
func randomMarks(random *rand.Rand, cands int, kind uint8) []int {
	if kind == 3 {
		var scores []int
		for range cands {
			scores = append(scores, random.Intn(10)/4*5)
		}
		return scores
	}
	marks := random.Perm(min(cands, 5))
	marks = marks[:random.Intn(len(marks)+1)]
	if kind == 2 {
		slices.Sort(marks)
	}
	return marks
}

// randomMany returns a number of ballots, small or great, but none that is too great.
func randomMany(random *rand.Rand) int {
	return 1 + random.Intn([]int{1, 3, 3, 1000, 400000}[random.Intn(5)])
}

// randomRows returns up to most rows of valid ballots, in order.
func randomRows(random *rand.Rand, cands int, kind uint8, most int) []api.Row {
	many := map[string]int{}
	for range random.Intn(most + 1) {
		many[modelKey(randomMarks(random, cands, kind))] = randomMany(random)
	}
	var rows []api.Row
	for _, key := range slices.Sorted(maps.Keys(many)) {
		rows = append(rows, api.Row{Marks: modelMarks(key), Many: many[key]})
	}
	return rows
}

// randomProfile returns a profile that is valid unless it has too many ballots.
func randomProfile(random *rand.Rand) api.Profile {
	p := api.Profile{Cands: 1 + random.Intn(10), Kind: uint8(1 + random.Intn(3))}
	p.Rows = randomRows(random, p.Cands, p.Kind, []int{0, 2, 5, 100}[random.Intn(4)])
	return p
}

// likeProfile returns a profile among the same candidates and of the same kind as p that is valid unless it has too many ballots.
func likeProfile(random *rand.Rand, p api.Profile) api.Profile {
	return api.Profile{Cands: p.Cands, Kind: p.Kind, Rows: randomRows(random, p.Cands, p.Kind, 5)}
}

// copied returns p in memory of its own.
func copied(p api.Profile) api.Profile {
	p.Rows = slices.Clone(p.Rows)
	for i := range p.Rows {
		p.Rows[i].Marks = slices.Clone(p.Rows[i].Marks)
	}
	return p
}

// spoilt returns p with a change, after which it often is not valid.
func spoilt(random *rand.Rand, p api.Profile) api.Profile {
	p = copied(p)
	wild := []int{-1, 0, 1, 2, 9, 10, 11, 255, 256, 257, 1 << 32, 1<<32 + 1, 1000000, 1000001, math.MinInt, math.MaxInt}[random.Intn(16)]
	if len(p.Rows) == 0 || random.Intn(4) == 0 {
		switch random.Intn(3) {
		case 0:
			p.Cands = wild
		case 1:
			p.Kind = uint8(random.Intn(5))
		case 2:
			p.Rows = append(p.Rows, api.Row{Marks: randomMarks(random, 3, 1), Many: wild})
		}
		return p
	}
	at, other := random.Intn(len(p.Rows)), random.Intn(len(p.Rows))
	row := &p.Rows[at]
	switch random.Intn(6) {
	case 0:
		row.Many = wild
	case 1:
		row.Marks = append(row.Marks, wild)
	case 2:
		row.Marks = row.Marks[:len(row.Marks)/2]
	case 3:
		p.Rows[at], p.Rows[other] = p.Rows[other], p.Rows[at]
	case 4:
		p.Rows = slices.Insert(p.Rows, at, p.Rows[other])
	case 5:
		p.Rows = slices.Delete(p.Rows, at, at+1)
	}
	return p
}
