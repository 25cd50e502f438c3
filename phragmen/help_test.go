package phragmen_test

import (
	"fmt"
	"math"
	"math/big"
	"math/rand"
	"slices"
	"strings"
	"testing"

	"suffrage/api"
	"suffrage/phragmen"
	"suffrage/profile"
)

const million = 1_000_000

// Lists of candidates

// upTo returns the numbers from 0 to n - 1.
func upTo(n int) []int {
	var l []int
	for i := range n {
		l = append(l, i)
	}
	return l
}

// downFrom returns the numbers from n - 1 to 0.
func downFrom(n int) []int { return reversed(upTo(n)) }

func reversed(l []int) []int {
	l = slices.Clone(l)
	slices.Reverse(l)
	return l
}

// others returns the list without c.
func others(l []int, c int) []int {
	return slices.DeleteFunc(slices.Clone(l), func(o int) bool { return o == c })
}

// inOrder returns the list in ascending order.
func inOrder(l []int) []int { return slices.Sorted(slices.Values(l)) }

// lots returns all permutations of n candidates.
func lots(n int) [][]int {
	if n == 0 {
		return [][]int{nil}
	}
	var all [][]int
	for _, l := range lots(n - 1) {
		for at := range n {
			all = append(all, slices.Insert(slices.Clone(l), at, n-1))
		}
	}
	return all
}

// sets returns all sets of n candidates, in the order of rows.
func sets(n int) [][]int {
	var all [][]int
	for bits := range 1 << n {
		all = append(all, slices.DeleteFunc(upTo(n), func(c int) bool { return bits>>c&1 == 0 }))
	}
	slices.SortFunc(all, slices.Compare)
	return all
}

// wilds are numbers that are at a limit or beyond one.
func wilds() []int {
	return []int{math.MinInt, math.MinInt + 1, -1 << 62, -1 << 32, -million, -11, -10, -2, -1, 0, 1, 2, 3, 9, 10, 11, 12, 255, 256, 257, million - 1, million, million + 1, 1 << 31, 1<<32 - 1, 1 << 32, 1<<32 + 1, 1 << 62, math.MaxInt - 1, math.MaxInt}
}

func randomWild(random *rand.Rand) int { return wilds()[random.Intn(len(wilds()))] }

// noCandidates are numbers that are none of so many candidates.
func noCandidates(cands int) []int {
	l := append(wilds(), cands, cands+1, cands+1<<8, cands+1<<32, cands-1<<32, -cands, ^cands)
	return slices.DeleteFunc(l, func(c int) bool { return c >= 0 && c < cands })
}

// wrongElected are lists in which something is no candidate, or stands twice.
func wrongElected(cands int) [][]int {
	all := upTo(cands)
	wrong := [][]int{append(upTo(cands), 0), append(upTo(cands), cands-1), append([]int{cands - 1}, all...), append([]int{0}, all...), append(upTo(cands), all...), make([]int, 200), upTo(200), slices.Repeat([]int{cands - 1}, 2)}
	for _, c := range noCandidates(cands) {
		wrong = append(wrong, []int{c}, append(upTo(cands), c), append(upTo(cands-1), c), append([]int{c}, all...), append([]int{c}, upTo(cands-1)...))
	}
	for at := 1; at < cands; at++ {
		twice := upTo(cands)
		twice[at] = at - 1
		wrong = append(wrong, twice, reversed(twice), twice[:at+1])
	}
	return wrong
}

// wrongLots are no permutations of so many candidates.
func wrongLots(cands int) [][]int {
	return append(wrongElected(cands), nil, []int{}, upTo(cands-1), upTo(cands)[1:], upTo(cands+1), downFrom(cands-1))
}

// Numbers

// number returns the number of a text like "-1/2".
func number(text string) api.Ratio {
	x, ok := new(big.Rat).SetString(text)
	if !ok {
		panic(text)
	}
	return ratioOf(x)
}

// numbers returns the numbers of a text like "1/2 0".
func numbers(text string) []api.Ratio {
	l := []api.Ratio{}
	for _, word := range strings.Fields(text) {
		l = append(l, number(word))
	}
	return l
}

// ratioOf returns x as the program has it.
func ratioOf(x *big.Rat) api.Ratio {
	return api.Ratio{Neg: x.Sign() < 0, Num: limbsOf(x.Num()), Den: limbsOf(x.Denom())}
}

// limbsOf returns the limbs of the absolute value of n.
func limbsOf(n *big.Int) []uint32 {
	l := []uint32{}
	for rest := new(big.Int).Abs(n); rest.Sign() > 0; rest.Rsh(rest, 32) {
		l = append(l, uint32(new(big.Int).And(rest, big.NewInt(1<<32-1)).Uint64()))
	}
	return l
}

// intOf returns the number of the limbs.
func intOf(limbs []uint32) *big.Int {
	n := new(big.Int)
	for _, limb := range reversedLimbs(limbs) {
		n.Add(n.Lsh(n, 32), new(big.Int).SetUint64(uint64(limb)))
	}
	return n
}

func reversedLimbs(l []uint32) []uint32 {
	l = slices.Clone(l)
	slices.Reverse(l)
	return l
}

// ratOf returns the value of x, whose Den is not 0.
func ratOf(x api.Ratio) *big.Rat {
	value := new(big.Rat).SetFrac(intOf(x.Num), intOf(x.Den))
	if x.Neg {
		value.Neg(value)
	}
	return value
}

func sameNumber(x, y api.Ratio) bool {
	return x.Neg == y.Neg && slices.Equal(x.Num, y.Num) && slices.Equal(x.Den, y.Den)
}

func sameNumbers(a, b []api.Ratio) bool { return slices.EqualFunc(a, b, sameNumber) }

func twinNumber(x api.Ratio) api.Ratio {
	return api.Ratio{Neg: x.Neg, Num: slices.Clone(x.Num), Den: slices.Clone(x.Den)}
}

func twinNumbers(l []api.Ratio) []api.Ratio {
	var copies []api.Ratio
	for _, x := range l {
		copies = append(copies, twinNumber(x))
	}
	return copies
}

// textOf shows a number.
func textOf(x api.Ratio) string {
	if len(x.Den) == 0 || len(x.Num)+len(x.Den) > 40 {
		return fmt.Sprintf("(%v, %d and %d limbs)", x.Neg, len(x.Num), len(x.Den))
	}
	return ratOf(x).RatString()
}

// textsOf shows numbers.
func textsOf(l []api.Ratio) string {
	var texts []string
	for _, x := range l[:min(len(l), 70)] {
		texts = append(texts, textOf(x))
	}
	return strings.Join(texts, " ")
}

// Profiles

func row(many int, marks ...int) api.Row { return api.Row{Marks: marks, Many: many} }

// of returns a profile with rows, valid or not.
func of(cands int, kind uint8, rows ...api.Row) api.Profile {
	return api.Profile{Cands: cands, Kind: kind, Rows: rows}
}

// marking returns a profile of marks, with its rows in order.
func marking(cands int, rows ...api.Row) api.Profile {
	slices.SortStableFunc(rows, func(r, s api.Row) int { return slices.Compare(r.Marks, s.Marks) })
	return of(cands, 2, rows...)
}

// theExample returns the profile of the chapter's example.
func theExample() api.Profile { return marking(3, row(3, 0, 1), row(2, 0), row(4, 2)) }

// fullProfile returns a profile of any kind with as many rows and as many ballots as the limits allow.
func fullProfile(kind uint8) api.Profile {
	p := of(10, kind)
	for i := range 64 {
		marks := []int{i / 8, 9 - i%8}
		switch kind {
		case 1:
			if marks[0] == marks[1] {
				marks = marks[:1]
			}
		case 2: // the candidates alone, and two or three of them
			marks = slices.DeleteFunc(upTo(10), func(c int) bool { return c != i%10 && c != (i+i/20)%10 && c != (i+i/10)%10 })
		case 3:
			marks = []int{0, 10, 5, 0, 0, 0, i / 8, i % 8, 7, 10}
		}
		p.Rows = append(p.Rows, row(15625, marks...))
	}
	slices.SortFunc(p.Rows, func(r, s api.Row) int { return slices.Compare(r.Marks, s.Marks) })
	return p
}

// unevenProfile is like fullProfile, with rows of all sizes.
func unevenProfile() api.Profile {
	p := fullProfile(2)
	for i := range 32 {
		p.Rows[i].Many = 31249 - 977*i
		p.Rows[63-i].Many = 1 + 977*i
	}
	return p
}

// primeProfile returns a profile with as many ballots as the limits allow, in which the supports of the ten candidates are the greatest primes below that number, the greatest one first, so that denominators become as long as they may, or nearly so.
func primeProfile() api.Profile {
	all := million
	var rows []api.Row
	for c, less := range []int{17, 21, 39, 41, 47, 69, 83, 93, 117, 137} {
		rows = append(rows, row(less, others(upTo(10), c)...))
		all -= less
	}
	return marking(10, append(rows, row(all, upTo(10)...))...)
}

// randomProfile returns a valid profile of marks.
func randomProfile(random *rand.Rand, cands int) api.Profile {
	many := []int{1, 3, 12, 1000, million / 64}[random.Intn(5)]
	share := 1 + random.Intn(4) // of 5, of the candidates on a ballot
	var rows []api.Row
	for range random.Intn([]int{4, 12, 64}[random.Intn(3)] + 1) {
		marks := slices.DeleteFunc(upTo(cands), func(int) bool { return random.Intn(5) >= share })
		if !slices.ContainsFunc(rows, func(r api.Row) bool { return slices.Equal(r.Marks, marks) }) {
			rows = append(rows, row(1+random.Intn(many), marks...))
		}
	}
	return marking(cands, rows...)
}

// levelProfile returns a valid profile of marks in which costs are often equal: each ballot has its like with candidates exchanged.
func levelProfile(random *rand.Rand, cands int) api.Profile {
	p := of(cands, 2)
	turn := append(upTo(cands)[1:], 0)
	if random.Intn(2) == 0 {
		turn = random.Perm(cands)
	}
	for range 1 + random.Intn(3) {
		marks, many := inOrder(random.Perm(cands)[:random.Intn(cands+1)]), 1+random.Intn(4)
		for range 1 + random.Intn(cands) {
			p, _ = profile.Add(p, api.Ballot{Kind: 2, Marks: marks}, many)
			marks = inOrder(called(marks, turn))
		}
	}
	return p
}

// anyProfile returns a valid profile of marks.
func anyProfile(random *rand.Rand) api.Profile {
	cands := 1 + random.Intn(10)
	if random.Intn(2) == 0 {
		return levelProfile(random, cands)
	}
	return randomProfile(random, cands)
}

// spoilt returns p with a change, after which it often is not valid.
func spoilt(random *rand.Rand, p api.Profile) api.Profile {
	p = profile.Twin(p)
	wild := randomWild(random)
	if len(p.Rows) == 0 {
		p.Rows = []api.Row{{Many: wild}}
	}
	at, other := random.Intn(len(p.Rows)), random.Intn(len(p.Rows))
	switch random.Intn(7) {
	case 0:
		p.Cands = wild
	case 1:
		p.Kind = uint8(random.Intn(5))
	case 2:
		p.Rows[at].Many = wild
	case 3:
		p.Rows[at].Marks = append(p.Rows[at].Marks, wild)
	case 4:
		p.Rows[at], p.Rows[other] = p.Rows[other], p.Rows[at]
	case 5:
		p.Rows = append(p.Rows, make([]api.Row, random.Intn(99))...)
	case 6:
		p.Cands = random.Intn(11)
	}
	return p
}

// spoiltList returns a list of candidates with a change, after which it often has something twice, or something that is no candidate.
func spoiltList(random *rand.Rand, l []int) []int {
	l = slices.Clone(l)
	switch random.Intn(3) {
	case 0:
		if len(l) > 0 {
			l[random.Intn(len(l))] = randomWild(random)
		}
	case 1:
		l = l[:random.Intn(len(l)+1)]
	case 2:
		l = append(l, randomWild(random))
	}
	return l
}

// wrongProfiles returns, for each error of profile.Check, profiles of marks that have it, and others that have it whatever their kind.
func wrongProfiles() map[api.Errno][]api.Profile {
	first, second := row(2, 0), row(2, 1)
	great := func(r api.Row, many int) api.Row { return api.Row{Marks: r.Marks, Many: many} }
	marks := func(cands int, rows ...api.Row) api.Profile { return of(cands, 2, rows...) }
	wrong := map[api.Errno][]api.Profile{
		api.ErrFull: {marks(2, make([]api.Row, 65)...), marks(2, slices.Repeat([]api.Row{first, second}, 33)...), of(0, 9, make([]api.Row, 65)...), marks(10, append(fullProfile(2).Rows, row(1, 9, 10))...)},
		api.ErrMany: {marks(2, great(first, million+1)), marks(2, first, great(second, million-1)), marks(2, great(first, math.MaxInt), second), marks(2, great(first, math.MaxInt), great(second, math.MaxInt)), marks(2, first, great(second, 1<<32)), of(2, 1, row(million+1, 1)), marks(2, row(million+1))},
		api.ErrBad: {{}, of(2, 0), of(2, 4), of(2, 255), marks(2, second, first), marks(2, first, first), marks(2, row(1, 2)), marks(2, row(1, -1)), marks(2, row(1, -1, 0)), marks(2, row(1, 0, 11)), marks(2, row(1, 1, 1)), marks(2, row(1, 1, 0)), marks(2, row(1, 0, 1, 0)), marks(2, row(1, 1<<32+1)),
			marks(1, first, second), marks(2, row(1), row(1)), of(2, 1, row(1, 1, 1)), of(2, 3, row(1, 1)), of(2, 3, row(1, 0, 11))},
	}
	for _, many := range []int{0, -1, math.MinInt, -1 << 32} {
		wrong[api.ErrBad] = append(wrong[api.ErrBad], marks(2, great(first, many)), marks(2, first, great(second, many)))
	}
	for _, cands := range []int{0, -1, 11, 12, math.MaxInt, math.MinInt, 1<<32 + 2, 256 + 2} {
		wrong[api.ErrBad] = append(wrong[api.ErrBad], marks(cands), marks(cands, first))
	}
	return wrong
}

// badProfiles returns profiles for which every call has the error ErrBad.
func badProfiles() []api.Profile {
	l := []api.Profile{of(2, 1), of(2, 3), of(2, 1, row(1, 1)), of(2, 3, row(1, 0, 1)), fullProfile(1), fullProfile(3)}
	for _, e := range []api.Errno{api.ErrFull, api.ErrBad, api.ErrMany} {
		l = append(l, wrongProfiles()[e]...)
	}
	return l
}

// show returns a text of p, or of its start if it is long.
func show(p api.Profile) string {
	s := fmt.Sprintf("%d rows among %d of kind %d: %v", len(p.Rows), p.Cands, p.Kind, p.Rows[:min(len(p.Rows), 80)])
	return s[:min(len(s), 1000)]
}

// Outcomes

// tie returns a decision by lot.
func tie(chosen int, among ...int) api.Tie { return api.Tie{Among: among, Chosen: chosen} }

// ties returns a list of decisions by lot.
func ties(l ...api.Tie) []api.Tie { return l }

// round is a round: the costs, as in "1/2 0 1/3", and who is elected.
type round struct {
	costs   string
	elected int
}

// outcome returns the outcome with these rounds.
func outcome(lost int, rounds []round, ties ...api.Tie) api.Outcome {
	o := api.Outcome{Ties: ties}
	for _, r := range rounds {
		o.Elected = append(o.Elected, r.elected)
		o.Rounds = append(o.Rounds, api.Round{Had: numbers(r.costs), Lost: ratioOf(big.NewRat(int64(lost), 1)), Elected: []int{r.elected}})
	}
	return o
}

func sameRound(r, s api.Round) bool {
	return sameNumbers(r.Had, s.Had) && sameNumber(r.Lost, s.Lost) && slices.Equal(r.Elected, s.Elected) && slices.Equal(r.Out, s.Out)
}

func sameTies(a, b []api.Tie) bool {
	return slices.EqualFunc(a, b, func(r, s api.Tie) bool { return slices.Equal(r.Among, s.Among) && r.Chosen == s.Chosen })
}

// same reports whether two outcomes are equal in all fields.
func same(a, b api.Outcome) bool {
	return slices.Equal(a.Elected, b.Elected) && slices.EqualFunc(a.Rounds, b.Rounds, sameRound) && sameTies(a.Ties, b.Ties)
}

// twin returns o in memory of its own.
func twin(o api.Outcome) api.Outcome {
	copied := api.Outcome{Elected: slices.Clone(o.Elected)}
	for _, r := range o.Rounds {
		copied.Rounds = append(copied.Rounds, api.Round{Had: twinNumbers(r.Had), Lost: twinNumber(r.Lost), Elected: slices.Clone(r.Elected), Out: slices.Clone(r.Out)})
	}
	for _, x := range o.Ties {
		copied.Ties = append(copied.Ties, tie(x.Chosen, slices.Clone(x.Among)...))
	}
	return copied
}

// tell shows an outcome.
func tell(o api.Outcome) string {
	s := fmt.Sprint(o.Elected, " by")
	for _, r := range o.Rounds {
		s += fmt.Sprintf(" (%s, lost %s, elected %v, out %v)", textsOf(r.Had), textOf(r.Lost), r.Elected, r.Out)
	}
	return fmt.Sprint(s, ", ties ", o.Ties)
}

// called returns the names of the candidates of a list.
func called(l, perm []int) []int {
	var names []int
	for _, c := range l {
		names = append(names, perm[c])
	}
	return names
}

// Checks

// count returns the outcome of a call that is right.
func count(t *testing.T, p api.Profile, seats int, lot []int) api.Outcome {
	t.Helper()
	o, e := phragmen.Count(p, seats, lot)
	if e != api.OK || len(o.Elected) != seats || len(o.Rounds) != seats {
		t.Fatalf("Count(%s, %d, %v) = %s, %d", show(p), seats, lot, tell(o), int(e))
	}
	return o
}

// checkCount holds an outcome against the one that is wanted, and against the model's.
func checkCount(t *testing.T, p api.Profile, seats int, lot []int, want api.Outcome) {
	t.Helper()
	if o := count(t, p, seats, lot); !same(o, want) {
		t.Errorf("Count(%s, %d, %v) = %s; want %s", show(p), seats, lot, tell(o), tell(want))
	}
	checkModelCount(t, p, seats, lot)
}

// checkModelCount holds an outcome against the model's, and returns it.
func checkModelCount(t *testing.T, p api.Profile, seats int, lot []int) (api.Outcome, api.Errno) {
	t.Helper()
	o, e := phragmen.Count(p, seats, lot)
	if want, wantE := modelCount(p, seats, lot); !same(o, want) || e != wantE {
		t.Errorf("Count(%s, %d, %v) = %s, %d; want %s, %d", show(p), seats, lot, tell(o), int(e), tell(want), int(wantE))
	}
	return o, e
}

func checkNoCount(t *testing.T, p api.Profile, seats int, lot []int, want api.Errno) {
	t.Helper()
	o, e := phragmen.Count(p, seats, lot)
	if e != want || o.Elected != nil || o.Rounds != nil || o.Ties != nil {
		t.Errorf("Count(%s, %d, %v) = %s, %d; want error %d", show(p), seats, lot[:min(len(lot), 50)], tell(o), int(e), int(want))
	}
	if _, e := modelCount(p, seats, lot); e != want {
		t.Errorf("the model's count of %s, %d, %v has error %d; want %d", show(p), seats, lot[:min(len(lot), 50)], int(e), int(want))
	}
}

// loadsOf returns the loads of a call that is right.
func loadsOf(t *testing.T, p api.Profile, elected []int) []api.Ratio {
	t.Helper()
	loads, e := phragmen.Loads(p, elected)
	if e != api.OK || len(loads) != len(p.Rows) {
		t.Fatalf("Loads(%s, %v) = %s, %d", show(p), elected, textsOf(loads), int(e))
	}
	return loads
}

// checkLoads holds loads against those that are wanted, and against the model's.
func checkLoads(t *testing.T, p api.Profile, elected []int, want string) {
	t.Helper()
	if loads := loadsOf(t, p, elected); !sameNumbers(loads, numbers(want)) {
		t.Errorf("Loads(%s, %v) = %s; want %s", show(p), elected, textsOf(loads), want)
	}
	checkModelLoads(t, p, elected)
}

// checkModelLoads holds loads against the model's, and returns them.
func checkModelLoads(t *testing.T, p api.Profile, elected []int) ([]api.Ratio, api.Errno) {
	t.Helper()
	loads, e := phragmen.Loads(p, elected)
	if want, wantE := modelLoads(p, elected); !sameNumbers(loads, want) || e != wantE {
		t.Errorf("Loads(%s, %v) = %s, %d; want %s, %d", show(p), elected[:min(len(elected), 50)], textsOf(loads), int(e), textsOf(want), int(wantE))
	}
	return loads, e
}

func checkNoLoads(t *testing.T, p api.Profile, elected []int, want api.Errno) {
	t.Helper()
	if loads, e := phragmen.Loads(p, elected); e != want || loads != nil {
		t.Errorf("Loads(%s, %v) = %s, %d; want error %d", show(p), elected[:min(len(elected), 50)], textsOf(loads), int(e), int(want))
	}
	checkModelLoads(t, p, elected)
}

// checkCost holds a cost against the one that is wanted, and against the model's.
func checkCost(t *testing.T, p api.Profile, loads []api.Ratio, x int, want string) {
	t.Helper()
	if cost, ok, e := phragmen.Cost(p, loads, x); !sameNumber(cost, number(want)) || !ok || e != api.OK {
		t.Errorf("Cost(%s, %s, %d) = %s, %v, %d; want %s", show(p), textsOf(loads), x, textOf(cost), ok, int(e), want)
	}
	checkModelCost(t, p, loads, x)
}

// checkModelCost holds a cost against the model's, and returns what comes with it.
func checkModelCost(t *testing.T, p api.Profile, loads []api.Ratio, x int) (ok bool, e api.Errno) {
	t.Helper()
	cost, ok, e := phragmen.Cost(p, loads, x)
	if want, wantOK, wantE := modelCost(p, loads, x); !sameNumber(cost, want) || ok != wantOK || e != wantE {
		t.Errorf("Cost(%s, %s, %d) = %s, %v, %d; want %s, %v, %d", show(p), textsOf(loads), x, textOf(cost), ok, int(e), textOf(want), wantOK, int(wantE))
	}
	return ok, e
}

// checkNoCost checks that there is no cost: for want OK, as the candidate has no support.
func checkNoCost(t *testing.T, p api.Profile, loads []api.Ratio, x int, want api.Errno) {
	t.Helper()
	cost, ok, e := phragmen.Cost(p, loads, x)
	if e != want || ok || cost.Neg || cost.Num != nil || cost.Den != nil {
		t.Errorf("Cost(%s, %s, %d) = %s, %v, %d; want nothing, %d", show(p), textsOf(loads), x, textOf(cost), ok, int(e), int(want))
	}
	checkModelCost(t, p, loads, x)
}
