package margin_test

import (
	"math/rand"
	"slices"
	"testing"

	"suffrage/api"
	"suffrage/count"
	"suffrage/profile"
)

// P23.1: the errors of count.Run, and all else against the model

// few returns a few of a list: the first, the last, and others.
func few[T any](l []T, from int) []T {
	few := []T{l[0], l[len(l)-1]}
	for i := from % 5; i < len(l); i += 5 {
		few = append(few, l[i])
	}
	return few
}

// checkFault checks that the error is that of count.Run, which is the one that is wanted.
func checkFault(t *testing.T, c api.Contest, p api.Profile, lot []int, want api.Errno) {
	t.Helper()
	checkNoOf(t, c, p, lot, want)
	if _, e := count.Run(c, p, lot); e != want {
		t.Errorf("Run of %s has error %d; want %d", showOf(c, p, lot), int(e), int(want))
	}
}

func TestP23_1WrongContests(t *testing.T) {
	for _, rule := range ruleNumbers() {
		kind := kindOf(rule)
		checkModelOf(t, contestOf(rule, 2, 1), someBallots(2, kind), upTo(2))
		for e, contests := range wrongContests(rule) {
			for _, c := range contests {
				checkFault(t, c, someBallots(2, kind), upTo(2), e)
				checkFault(t, c, of(2, kind), upTo(2), e)
				checkFault(t, c, someBallots(1, kind), ints(0), e)
			}
		}
	}
}

func TestP23_1WrongProfiles(t *testing.T) {
	for _, rule := range ruleNumbers() {
		for e, profiles := range wrongProfiles(kindOf(rule)) {
			for _, p := range profiles {
				for seats := 1; seats <= mostSeats(rule, 2); seats++ {
					checkFault(t, contestOf(rule, 2, seats), p, upTo(2), e)
				}
				checkFault(t, contestOf(rule, 1, 1), p, ints(0), e)
			}
		}
	}
}

func TestP23_1ProfilesThatDoNotFit(t *testing.T) {
	for _, rule := range ruleNumbers() {
		for cands := 1; cands <= 10; cands++ {
			for other := uint8(1); other <= 3; other++ {
				for n := 1; n <= 10; n++ {
					if other == kindOf(rule) && n == cands {
						continue
					}
					for _, p := range []api.Profile{of(n, other), someBallots(n, other)} {
						checkFault(t, contestOf(rule, cands, 1), p, upTo(cands), api.ErrFit)
						checkFault(t, contestOf(rule, cands, mostSeats(rule, cands)), p, upTo(n), api.ErrFit)
					}
				}
			}
		}
	}
}

// Also where there is no margin: without ballots, with one candidate, and with as many seats as candidates.
func TestP23_1WrongLots(t *testing.T) {
	for _, rule := range ruleNumbers() {
		for cands := 1; cands <= 10; cands++ {
			for _, p := range []api.Profile{of(cands, kindOf(rule)), someBallots(cands, kindOf(rule))} {
				for _, lot := range wrongLots(cands) {
					checkFault(t, contestOf(rule, cands, 1), p, lot, api.ErrArg)
					checkFault(t, contestOf(rule, cands, mostSeats(rule, cands)), p, lot, api.ErrArg)
				}
			}
		}
	}
}

// Seats that the rule doesn't fill are an error of the contest, and no want of a margin.
func TestP23_1SeatsThatARuleDoesNotFill(t *testing.T) {
	for _, rule := range ruleNumbers() {
		for cands := 1; cands <= 10; cands++ {
			for _, seats := range ints(-1, 0, mostSeats(rule, cands)+1, 11, 12) {
				checkFault(t, contestOf(rule, cands, seats), someBallots(cands, kindOf(rule)), upTo(cands), api.ErrBad)
			}
		}
		checkFault(t, contestOf(rule, 11, 1), someBallots(10, kindOf(rule)), upTo(10), api.ErrMany)
	}
}

// Several errors at once: that of the contest, that of the profile, ErrFit, that of the lot, ErrNone.
func TestP23_1ErrorsInOrder(t *testing.T) {
	for _, rule := range ruleNumbers() {
		kind := kindOf(rule)
		for e, contests := range wrongContests(rule) {
			for i, c := range few(contests, int(rule)) {
				for _, profiles := range wrongProfiles(kind) {
					for j, p := range few(profiles, i) {
						checkFault(t, c, p, [][]int{upTo(2), nil, {5, 5}}[j%3], e)
					}
				}
				for _, p := range []api.Profile{of(2, kind%3+1), of(3, kind), of(1, kind%3+1), of(2, kind)} {
					checkFault(t, c, p, []int{1, 1}, e)
				}
			}
		}
		for e, profiles := range wrongProfiles(kind%3 + 1) {
			for i, p := range few(profiles, int(rule)) {
				for _, cands := range []int{1, 2, 3, 10} {
					checkFault(t, contestOf(rule, cands, mostSeats(rule, cands)), p, few(wrongLots(cands), i)[2], e)
				}
			}
		}
		for _, lot := range wrongLots(2) {
			checkFault(t, contestOf(rule, 2, 1), of(3, kind), lot, api.ErrFit)
			checkFault(t, contestOf(rule, 1, 1), of(2, kind), lot, api.ErrFit)
		}
	}
}

// What there is no margin of, for several reasons at once.
func TestP23_1NoMarginForSeveralReasons(t *testing.T) {
	for _, rule := range ruleNumbers() {
		for cands := 1; cands <= 10; cands++ {
			checkNoOf(t, contestOf(rule, cands, mostSeats(rule, cands)), of(cands, kindOf(rule)), upTo(cands), api.ErrNone)
		}
	}
}

// The edges

func TestP23_1EdgesOfEachRule(t *testing.T) {
	for _, rule := range ruleNumbers() {
		kind := kindOf(rule)
		for cands := 2; cands <= 10; cands++ {
			profiles := []api.Profile{someBallots(cands, kind), alike(cands, kind, 1), alike(cands, kind, 5), alike(cands, kind, million)}
			if cands == 10 {
				profiles = append(profiles, fullProfile(kind))
			}
			for seats := 1; seats <= mostSeats(rule, cands); seats++ {
				for _, p := range profiles {
					for _, lot := range [][]int{upTo(cands), downFrom(cands)} {
						checkModelOf(t, contestOf(rule, cands, seats), p, lot)
					}
				}
			}
		}
	}
}

// alike returns a profile of ballots that are all for candidate 1.
func alike(cands int, kind uint8, many int) api.Profile {
	if kind == 3 {
		scores := make([]int, cands)
		scores[1] = 10
		return of(cands, kind, row(many, scores...))
	}
	return of(cands, kind, row(many, 1))
}

func TestP23_1AllSmallProfiles(t *testing.T) {
	for cands := 1; cands <= 3; cands++ {
		for kind := uint8(1); kind <= 3; kind++ {
			for i, p := range smallProfiles(cands, kind, 2) {
				for _, rule := range rulesOf(kind) {
					for _, lot := range lots(cands) {
						checkModelOf(t, contestOf(rule, cands, 1+i%mostSeats(rule, cands)), p, lot)
					}
				}
			}
		}
	}
}

func TestP23_1RandomProfiles(t *testing.T) {
	random := rand.New(rand.NewSource(2312))
	for _, rule := range ruleNumbers() {
		found := map[int]int{}
		for range 600 {
			x := randomElection(random, rule)
			n, _ := checkModelOf(t, x.c, x.p, x.lot)
			found[min(n, 10)]++
		}
		if isBound := !isExact(rule) && rule != 9 && (rule < 5 || rule > 8); found[0] < 10 || found[1] < 10 || !isBound && (found[2] < 10 || found[10] < 10) {
			t.Errorf("rule %d has these margins: %v", rule, found)
		}
	}
}

// Margins of many ballots: such in which few candidates have most of them.
func TestP23_1RandomProfilesOfManyBallots(t *testing.T) {
	random := rand.New(rand.NewSource(2313))
	for _, rule := range ruleNumbers() {
		for range 200 {
			cands := 2 + random.Intn(9)
			p, rest := of(cands, kindOf(rule)), million
			for range 1 + random.Intn(9) {
				many := 1 + random.Intn(rest-20)
				rest -= many
				p, _ = profile.Add(p, api.Ballot{Kind: p.Kind, Marks: randomMarks(random, cands, p.Kind)}, many)
				if rest < 30 {
					break
				}
			}
			checkModelOf(t, contestOf(rule, cands, 1+random.Intn(mostSeats(rule, cands))), p, random.Perm(cands))
		}
	}
}

// election is a right call of count.Run.
type election struct {
	c   api.Contest
	p   api.Profile
	lot []int
}

// randomElection returns an election by the rule.
func randomElection(random *rand.Rand, rule uint8) election {
	cands := 1 + random.Intn(10)
	return election{contestOf(rule, cands, 1+random.Intn(mostSeats(rule, cands))), randomProfile(random, cands, kindOf(rule)), random.Perm(cands)}
}

// The order of the names and the name of the contest do not matter.
func TestP23_1NamesDoNotMatter(t *testing.T) {
	random := rand.New(rand.NewSource(2314))
	for _, rule := range ruleNumbers() {
		x := randomElection(random, rule)
		want, _ := checkModelOf(t, x.c, x.p, x.lot)
		x.c.Name, x.c.Cands = "~", slices.Clone(x.c.Cands)
		slices.Reverse(x.c.Cands)
		if n, _ := checkModelOf(t, x.c, x.p, x.lot); n != want {
			t.Errorf("%s = %d; want %d", showOf(x.c, x.p, x.lot), n, want)
		}
	}
}
