package count_test

import (
	"math/rand"
	"slices"
	"testing"

	"suffrage/api"
	"suffrage/count"
	"suffrage/profile"
	"suffrage/single"
)

// P22.1: Run

// Rankings 0 1 three times and 1 0 twice, one seat, lot 0, 1.
func theExample() (api.Profile, []int) { return of(2, 1, row(3, 0, 1), row(2, 1, 0)), []int{0, 1} }

func TestP22_1TheExample(t *testing.T) {
	p, lot := theExample()
	for rule := uint8(5); rule <= 10; rule++ {
		had := map[uint8]string{5: "1 0", 6: "0 1", 7: "1 0", 8: "1 0", 9: "3 2", 10: "3 2"}[rule]
		checkRun(t, contestOf(rule, 2, 1), p, lot, outcome(ints(0), []round{{had, "0", ints(0), nil}}))
	}
}

// manyWinners is a profile of rankings of which no two rules have the same outcome. The greatest margins are 4: 1 over 2, and 0 over 3; 2 is ahead of 0, and 3 of 1 and of 2, by one ballot.
func manyWinners() (api.Profile, []int) {
	return of(4, 1, row(6), row(5, 0, 3, 1), row(5, 1), row(5, 2), row(1, 3, 2)), []int{0, 2, 1, 3}
}

// someMarks is a profile of marks, in which 6 ballots are a vote for nobody, or for nobody alone.
func someMarks() api.Profile {
	return of(3, 2, row(2), row(53, 0), row(4, 0, 1), row(24, 1), row(23, 2))
}

func TestP22_1RankingsByEachRule(t *testing.T) {
	p, lot := manyWinners()
	start := round{"5 5 5 1", "0", nil, ints(3)}
	next := round{"5 5 6 0", "0", nil, ints(1)}
	for rule, want := range map[uint8]api.Outcome{
		4:  outcome(ints(1), []round{{"15 20 17 13", "0", ints(1), nil}}),
		5:  outcome(ints(3), []round{{"3/2 3/2 1 2", "0", ints(3), nil}}),
		6:  outcome(ints(0), []round{{"1 1 4 4", "0", ints(0), nil}}, tie(0, 0, 1)),
		7:  outcome(ints(3), []round{{"0 2 1 3", "0", ints(3), nil}}),
		8:  outcome(ints(1), []round{{"1 1 1 0", "0", ints(1), nil}}),
		9:  outcome(ints(2), []round{{"5 5 5 1", "6", nil, ints(3)}, {"5 5 6 0", "6", nil, ints(1)}, {"5 0 6 0", "11", ints(2), nil}}, tie(1, 0, 1)),
		10: outcome(ints(1), []round{{"5 5 5 1", "6", nil, ints(0)}, {"0 5 5 6", "6", nil, ints(3)}, {"0 10 6 0", "6", ints(1), nil}}, tie(3, 2, 3)),
		11: outcome(ints(2), []round{start, next, {"5 0 6 0", "5", nil, ints(0)}, {"0 0 6 0", "10", ints(2), nil}}, tie(1, 0, 1)),
		12: outcome(ints(2), []round{start, next, {"5 0 6 0", "5", ints(2), nil}}, tie(1, 0, 1)),
	} {
		checkRun(t, contestOf(rule, 4, 1), p, lot, want)
	}
}

func TestP22_1RankingsForSeveralSeats(t *testing.T) {
	p, lot := of(3, 1, row(6, 0, 1), row(1, 1), row(3, 2)), upTo(3)
	checkRun(t, contestOf(4, 3, 2), p, lot, outcome(ints(0, 1), []round{{"12 8 6", "0", ints(0, 1), nil}}))
	checkRun(t, contestOf(11, 3, 2), p, lot, outcome(ints(0, 2), []round{{"6 1 3", "0", ints(0), nil}, {"4 1499999999/500000000 3", "1/500000000", nil, ints(1)}, {"4 0 3", "3", ints(2), nil}}))
	checkRun(t, contestOf(12, 3, 2), p, lot, outcome(ints(0, 1), []round{{"6 1 3", "0", ints(0), nil}, {"416666667/125000000 458333333/125000000 3", "0", ints(1), nil}}))
}

func TestP22_1MarksByEachRule(t *testing.T) {
	p, lot := someMarks(), upTo(3)
	votes := func(elected ...int) api.Outcome {
		return outcome(elected, []round{{"53 24 23", "6", elected, nil}})
	}
	checkRun(t, contestOf(1, 3, 2), p, lot, votes(0, 1))
	checkRun(t, contestOf(2, 3, 2), p, lot, outcome(ints(0, 1), []round{{"57 28 23", "0", ints(0, 1), nil}}))
	checkRun(t, contestOf(13, 3, 2), p, lot, outcome(ints(0, 1), []round{{"1/57 1/28 1/23", "2", ints(0), nil}, {"0 61/1596 1/23", "2", ints(1), nil}}))
	checkRun(t, contestOf(14, 3, 7), p, lot, votes(0, 0, 1, 2, 0, 0, 1))
	checkRun(t, contestOf(15, 3, 7), p, lot, votes(0, 1, 2, 0, 0, 1, 2))
	checkRun(t, contestOf(16, 3, 7), p, lot, votes(0, 0, 0, 1, 2, 0, 1))
}

func TestP22_1Scores(t *testing.T) {
	p := of(3, 3, row(2, 3, 0, 10), row(3, 5, 5, 0))
	checkRun(t, contestOf(3, 3, 2), p, upTo(3), outcome(ints(0, 2), []round{{"21 15 20", "0", ints(0, 2), nil}}))
	checkRun(t, contestOf(3, 2, 1), of(2, 3, row(1, 7, 7)), downFrom(2), outcome(ints(1), []round{{"7 7", "0", ints(1), nil}}, tie(1, 0, 1)))
}

// differ reports whether two rules have different outcomes of p, for some number of seats of which contests by both may be.
func differ(rule, other uint8, p api.Profile, lot []int) bool {
	for seats := range min(mostSeats(rule, p.Cands), mostSeats(other, p.Cands)) {
		o, _ := modelCount(rule, p, seats+1, lot)
		if n, _ := modelCount(other, p, seats+1, lot); !same(o, n) {
			return true
		}
	}
	return false
}

// Were the function of one rule that of another one, some outcome would be another one.
func TestP22_1NoTwoRulesAreAlike(t *testing.T) {
	ranking, lot := manyWinners()
	approval := of(3, 2, row(80, 0), row(5, 0, 1), row(10, 1), row(10, 2))
	for _, rule := range rulesOf(1) {
		for _, other := range rulesOf(1) {
			if rule != other && !differ(rule, other, ranking, lot) {
				t.Errorf("rules %d and %d have the same outcomes", rule, other)
			}
		}
	}
	for _, rule := range rulesOf(2) {
		for _, other := range rulesOf(2) {
			if rule != other && !differ(rule, other, approval, upTo(3)) && !differ(rule, other, someMarks(), upTo(3)) {
				t.Errorf("rules %d and %d have the same outcomes", rule, other)
			}
		}
	}
}

// The lot and the seats are those of the call: with each lot, and with each number of seats.
func TestP22_1EachLotAndNumberOfSeats(t *testing.T) {
	for _, rule := range ruleNumbers() {
		won := map[int]int{}
		for _, lot := range lots(3) {
			for seats := 1; seats <= mostSeats(rule, 3); seats++ {
				for _, p := range []api.Profile{of(3, kindOf(rule)), someBallots(3, kindOf(rule))} {
					o, e := checkModelRun(t, contestOf(rule, 3, seats), p, lot)
					if e != api.OK || len(o.Elected) != seats {
						t.Errorf("rule %d, %d seats, lot %v: %s, %d", rule, seats, lot, tell(o), int(e))
					}
					if len(p.Rows) == 0 && seats == 1 {
						won[o.Elected[0]]++
					}
				}
			}
		}
		if won[0] != 2 || won[1] != 2 || won[2] != 2 {
			t.Errorf("rule %d: without ballots, %v have won", rule, won)
		}
	}
}

// Blank ballots alone, no ballots, one candidate, and as many candidates, seats, rows and ballots as there may be.
func TestP22_1EdgesOfEachRule(t *testing.T) {
	for _, rule := range ruleNumbers() {
		kind := kindOf(rule)
		for cands := 1; cands <= 10; cands++ {
			profiles := []api.Profile{of(cands, kind), someBallots(cands, kind)}
			if kind != 3 {
				profiles = append(profiles, of(cands, kind, row(1)), of(cands, kind, row(million)))
			} else {
				profiles = append(profiles, of(cands, kind, row(5, make([]int, cands)...)))
			}
			if cands == 10 {
				profiles = append(profiles, fullProfile(kind))
			}
			for seats := 1; seats <= mostSeats(rule, cands); seats++ {
				for _, p := range profiles {
					for _, lot := range [][]int{upTo(cands), downFrom(cands)} {
						if _, e := checkModelRun(t, contestOf(rule, cands, seats), p, lot); e != api.OK {
							t.Errorf("rule %d, %d seats: %s has error %d", rule, seats, show(p), int(e))
						}
					}
				}
			}
		}
	}
}

// Whatever names the contest and its candidates have.
func TestP22_1NamesDoNotMatter(t *testing.T) {
	p, lot := manyWinners()
	for _, rule := range rulesOf(1) {
		c := contestOf(rule, 4, 1)
		want := run(t, c, p, lot)
		c.Name, c.Cands = "~", []string{"zoe", "!", "cand0", "ann-of-the-forty-bytes-that-a-name-may-be"[:40]}
		checkRun(t, c, p, lot, want)
	}
}

func TestP22_1AllSmallProfiles(t *testing.T) {
	for cands := 1; cands <= 3; cands++ {
		for kind := uint8(1); kind <= 3; kind++ {
			for i, p := range smallProfiles(cands, kind, 2) {
				for _, rule := range rulesOf(kind) {
					for _, lot := range lots(cands) {
						checkModelRun(t, contestOf(rule, cands, 1+i%mostSeats(rule, cands)), p, lot)
					}
				}
			}
		}
	}
}

func TestP22_1RandomProfiles(t *testing.T) {
	random := rand.New(rand.NewSource(2201))
	for range 300 {
		for _, rule := range ruleNumbers() {
			cands := 1 + random.Intn(10)
			c := contestOf(rule, cands, 1+random.Intn(mostSeats(rule, cands)))
			if _, e := checkModelRun(t, c, randomProfile(random, cands, kindOf(rule)), random.Perm(cands)); e != api.OK {
				t.Errorf("%s has error %d", showContest(c), int(e))
			}
		}
	}
}

// The errors of Run, alone

func TestP22_1WrongContests(t *testing.T) {
	for _, rule := range ruleNumbers() {
		p := someBallots(2, kindOf(rule))
		run(t, contestOf(rule, 2, 1), p, upTo(2))
		for e, contests := range wrongContests(rule) {
			for _, c := range contests {
				checkNoRun(t, c, p, upTo(2), e)
			}
		}
	}
}

// A contest may have as many seats as its rule fills, and no more; and ten candidates.
func TestP22_1SeatsThatARuleDoesNotFill(t *testing.T) {
	for _, rule := range ruleNumbers() {
		for cands := 1; cands <= 10; cands++ {
			for seats := -1; seats <= 12; seats++ {
				c, p := contestOf(rule, cands, seats), of(cands, kindOf(rule))
				if seats < 1 || seats > mostSeats(rule, cands) {
					checkNoRun(t, c, p, upTo(cands), api.ErrBad)
				} else {
					checkModelRun(t, c, p, upTo(cands))
				}
			}
		}
		checkNoRun(t, contestOf(rule, 11, 1), of(10, kindOf(rule)), upTo(10), api.ErrMany)
		checkNoRun(t, contestOf(rule, 11, 1), of(11, kindOf(rule)), upTo(11), api.ErrMany)
	}
}

func TestP22_1WrongProfiles(t *testing.T) {
	for _, rule := range ruleNumbers() {
		for e, profiles := range wrongProfiles(kindOf(rule)) {
			for _, p := range profiles {
				checkNoRun(t, contestOf(rule, 2, 1), p, upTo(2), e)
			}
		}
	}
}

func TestP22_1ProfilesThatDoNotFit(t *testing.T) {
	for _, rule := range ruleNumbers() {
		kind := kindOf(rule)
		for cands := 1; cands <= 10; cands++ {
			c := contestOf(rule, cands, 1)
			for other := uint8(1); other <= 3; other++ {
				for n := 1; n <= 10; n++ {
					for _, p := range []api.Profile{of(n, other), someBallots(n, other)} {
						if other == kind && n == cands {
							run(t, c, p, upTo(n))
							continue
						}
						checkNoRun(t, c, p, upTo(cands), api.ErrFit)
						checkNoRun(t, c, p, upTo(n), api.ErrFit)
					}
				}
			}
		}
	}
}

func TestP22_1WrongLots(t *testing.T) {
	for _, rule := range ruleNumbers() {
		for cands := 1; cands <= 10; cands++ {
			for _, p := range []api.Profile{of(cands, kindOf(rule)), someBallots(cands, kindOf(rule))} {
				for _, lot := range wrongLots(cands) {
					checkNoRun(t, contestOf(rule, cands, 1), p, lot, api.ErrArg)
				}
			}
		}
	}
}

// An error is that of the rule's function, as it is.
func TestP22_1TheErrorOfTheRule(t *testing.T) {
	p := of(2, 2)
	_, want := single.Approval(p, 1, nil)
	if _, e := count.Run(contestOf(2, 2, 1), p, nil); e != want || e != api.ErrArg {
		t.Errorf("the errors are %d and %d", int(e), int(want))
	}
}

// The errors of Run, several at once

// some returns a few of a list: the first, the last, and others.
func some[T any](l []T, from int) []T {
	few := []T{l[0], l[len(l)-1]}
	for i := from % 5; i < len(l); i += 5 {
		few = append(few, l[i])
	}
	return few
}

func TestP22_1TheContestIsFirst(t *testing.T) {
	for _, rule := range ruleNumbers() {
		kind := kindOf(rule)
		unfit := []api.Profile{of(2, kind%3+1), of(3, kind), of(1, kind%3+1)}
		for e, contests := range wrongContests(rule) {
			for i, c := range some(contests, int(rule)) {
				for _, profiles := range wrongProfiles(kind) {
					for j, p := range some(profiles, i) {
						checkNoRun(t, c, p, [][]int{upTo(2), nil, {5, 5}}[j%3], e)
					}
				}
				for _, p := range unfit {
					checkNoRun(t, c, p, upTo(2), e)
					checkNoRun(t, c, p, []int{1, 1}, e)
				}
				checkNoRun(t, c, of(2, kind), nil, e)
				checkNoRun(t, c, someBallots(2, kind), []int{1, -1}, e)
			}
		}
	}
}

// A profile that is not valid is that, also if it does not fit or if the lot is wrong.
func TestP22_1TheProfileIsSecond(t *testing.T) {
	for _, rule := range ruleNumbers() {
		for other := uint8(1); other <= 3; other++ {
			for e, profiles := range wrongProfiles(other) {
				for i, p := range some(profiles, int(rule)) {
					for _, cands := range []int{1, 2, 3, 10} {
						checkNoRun(t, contestOf(rule, cands, 1), p, upTo(cands), e)
						checkNoRun(t, contestOf(rule, cands, 1), p, some(wrongLots(cands), i)[2], e)
					}
				}
			}
		}
	}
}

// A profile that does not fit is that, also if the lot is wrong.
func TestP22_1TheFitIsThird(t *testing.T) {
	for _, rule := range ruleNumbers() {
		for other := uint8(1); other <= 3; other++ {
			for cands := 1; cands <= 3; cands++ {
				if other == kindOf(rule) && cands == 2 {
					continue
				}
				for _, lot := range slices.Concat(wrongLots(2), wrongLots(cands)) {
					checkNoRun(t, contestOf(rule, 2, 1), someBallots(cands, other), lot, api.ErrFit)
				}
			}
		}
	}
}

// The check of the contest is not done with the numbers of the profile, nor the other way round.
func TestP22_1EachIsCheckedByItself(t *testing.T) {
	for _, rule := range rulesOf(2) {
		full := fullProfile(2)
		checkModelRun(t, contestOf(rule, 10, mostSeats(rule, 10)), full, downFrom(10))
		checkNoRun(t, contestOf(rule, 9, 1), full, upTo(9), api.ErrFit)
		more, e := profile.Add(full, api.Ballot{Kind: 2, Marks: full.Rows[0].Marks}, 1)
		if e != api.ErrMany {
			t.Fatalf("%d, %s", int(e), show(more))
		}
		full.Rows[0].Many++
		checkNoRun(t, contestOf(rule, 9, 1), full, upTo(9), api.ErrMany)
		checkNoRun(t, contestOf(rule, 11, 1), full, upTo(9), api.ErrMany)
		checkNoRun(t, contestOf(rule, 10, 11), full, upTo(9), api.ErrBad)
	}
}
