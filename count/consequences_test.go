package count_test

import (
	"math/rand"
	"slices"
	"testing"

	"suffrage/api"
	"suffrage/count"
	"suffrage/profile"
)

// P22.3

// renamedProfile returns the profile with the candidates' names.
func renamedProfile(p api.Profile, perm []int) api.Profile {
	n, e := profile.Rename(p, perm)
	if e != api.OK {
		panic(show(p))
	}
	return n
}

// election is a right call of Run.
type election struct {
	c   api.Contest
	p   api.Profile
	lot []int
}

// randomElection returns an election by the rule.
func randomElection(random *rand.Rand, rule uint8) election {
	cands := 1 + random.Intn(10)
	return election{contestOf(rule, cands, 1+random.Intn(mostSeats(rule, cands))), randomProfile(random, cands, kindOf(rule)), random.Perm(cands)}
}

// elections returns elections by the rule: all with very few ballots and candidates, and random ones.
func elections(rule uint8, many int) []election {
	random := rand.New(rand.NewSource(2230 + int64(rule)))
	var all []election
	for cands := 1; cands <= 3; cands++ {
		for i, p := range smallProfiles(cands, kindOf(rule), 2) {
			all = append(all, election{contestOf(rule, cands, 1+i%mostSeats(rule, cands)), p, random.Perm(cands)})
		}
	}
	for range many {
		all = append(all, randomElection(random, rule))
	}
	return all
}

// twice reports whether some candidate is there more than once.
func twice(l []int) bool { return len(slices.Compact(inOrder(l))) < len(l) }

func TestP22_3AtMostAsManyAsSeats(t *testing.T) {
	for _, rule := range ruleNumbers() {
		several, again := 0, 0
		for _, x := range elections(rule, 300) {
			o := run(t, x.c, x.p, x.lot)
			if len(o.Elected) > x.c.Seats || rule < 14 && twice(o.Elected) {
				t.Errorf("%s; %s; %v: %s", showContest(x.c), show(x.p), x.lot, tell(o))
			}
			if len(o.Elected) > 1 {
				several++
			}
			if twice(o.Elected) {
				again++
			}
		}
		if single := rule >= 5 && rule <= 10; !single && several < 100 || rule >= 14 && again < 100 {
			t.Errorf("rule %d elects several %d times, and one of them twice %d times", rule, several, again)
		}
	}
}

// withMajority returns the profile with ballots on which x is first, so many that these are more than half of those with marks: by as few as can be, or by more.
func withMajority(random *rand.Rand, p api.Profile, x int) api.Profile {
	first, marked := 0, 0
	for _, r := range p.Rows {
		if len(r.Marks) > 0 {
			marked += r.Many
			if r.Marks[0] == x {
				first += r.Many
			}
		}
	}
	due := max(0, marked-2*first+1) + random.Intn(2)*random.Intn(5)
	for due > 0 {
		marks := append([]int{x}, slices.DeleteFunc(randomMarks(random, p.Cands, 1), func(c int) bool { return c == x })...)
		many := 1 + random.Intn(due)
		q, e := profile.Add(p, api.Ballot{Kind: 1, Marks: marks}, many)
		if e != api.OK {
			continue // as there are no more rows
		}
		p, due = q, due-many
	}
	return p
}

func TestP22_3TheMajorityIsElected(t *testing.T) {
	random := rand.New(rand.NewSource(2231))
	for range 400 {
		cands := 1 + random.Intn(10)
		x := random.Intn(cands)
		p := withMajority(random, randomProfile(random, cands, 1), x)
		lot := append(slices.DeleteFunc(random.Perm(cands), func(c int) bool { return c == x }), x)
		for rule := uint8(5); rule <= 12; rule++ {
			for seats := 1; seats <= mostSeats(rule, cands); seats++ {
				if o := run(t, contestOf(rule, cands, seats), p, lot); !slices.Contains(o.Elected, x) {
					t.Errorf("rule %d, %d seats: %s with %d first on most ballots: %s", rule, seats, show(p), x, tell(o))
				}
			}
		}
	}
}

// One ballot more than half is enough, and half is not: against another half the lot decides.
func TestP22_3TheLeastMajority(t *testing.T) {
	for rule := uint8(5); rule <= 12; rule++ {
		for _, half := range []int{1, 2, 3, 499_999} {
			more, level := of(2, 1, row(1), row(half, 0), row(half+1, 1)), of(2, 1, row(1), row(half, 0), row(half, 1))
			for x := range 2 {
				lot := ints(1-x, x)
				if o := run(t, contestOf(rule, 2, 1), more, lot); o.Elected[0] != 1 || len(o.Ties) > 0 {
					t.Errorf("rule %d, lot %v: %s: %s", rule, lot, show(more), tell(o))
				}
				if o := run(t, contestOf(rule, 2, 1), level, lot); o.Elected[0] != 1-x || len(o.Ties) != 1 {
					t.Errorf("rule %d, lot %v: %s: %s", rule, lot, show(level), tell(o))
				}
			}
		}
	}
}

// All profiles of at most three ballots.
func TestP22_3TheMajorityOfAFewBallots(t *testing.T) {
	majorities := 0
	for cands := 1; cands <= 3; cands++ {
		for _, p := range smallProfiles(cands, 1, 3) {
			firsts, marked := make([]int, cands), 0
			for _, r := range p.Rows {
				if len(r.Marks) > 0 {
					firsts[r.Marks[0]] += r.Many
					marked += r.Many
				}
			}
			x := slices.IndexFunc(firsts, func(n int) bool { return 2*n > marked })
			if x < 0 {
				continue
			}
			majorities++
			for rule := uint8(5); rule <= 12; rule++ {
				for _, lot := range [][]int{upTo(cands), downFrom(cands)} {
					for seats := 1; seats <= mostSeats(rule, cands); seats++ {
						if o := run(t, contestOf(rule, cands, seats), p, lot); !slices.Contains(o.Elected, x) {
							t.Errorf("rule %d, %d seats, lot %v: %s: %s", rule, seats, lot, show(p), tell(o))
						}
					}
				}
			}
		}
	}
	if majorities < 500 {
		t.Errorf("%d profiles have a majority", majorities)
	}
}

// withBlanks returns the profile with so many more blank ballots, or false if there is no room.
func withBlanks(p api.Profile, many int) (api.Profile, bool) {
	more, e := profile.Add(p, api.Ballot{Kind: p.Kind}, many)
	return more, e == api.OK
}

func TestP22_3BlankBallotsDoNotMatter(t *testing.T) {
	random := rand.New(rand.NewSource(2232))
	for _, rule := range ruleNumbers() {
		if kindOf(rule) == 3 {
			continue // there are no blank ballots with scores
		}
		added := 0
		for _, x := range elections(rule, 200) {
			ballots, _ := profile.Many(x.p)
			before := run(t, x.c, x.p, x.lot)
			for _, many := range []int{1, 2, 1 + random.Intn(100), 1000, million - ballots} {
				more, ok := withBlanks(x.p, many)
				if !ok {
					continue
				}
				added++
				if o := run(t, x.c, more, x.lot); !slices.Equal(o.Elected, before.Elected) {
					t.Errorf("%s; %s; %v: %v; with %d blank ballots %v", showContest(x.c), show(x.p), x.lot, before.Elected, many, o.Elected)
				}
			}
		}
		if added < 500 {
			t.Errorf("rule %d: %d profiles with blank ballots", rule, added)
		}
	}
}

// The seats of each candidate go to its new number.
func TestP22_3RenamingTheCandidates(t *testing.T) {
	random := rand.New(rand.NewSource(2233))
	for _, rule := range ruleNumbers() {
		tied := 0
		for _, x := range elections(rule, 300) {
			perm := random.Perm(len(x.lot))
			before := run(t, x.c, x.p, x.lot)
			after := run(t, x.c, renamedProfile(x.p, perm), called(x.lot, perm))
			seats, _ := count.Seats(before, len(x.lot))
			moved, e := count.Seats(after, len(x.lot))
			if e != api.OK || !slices.Equal(called(perm, moved), seats) {
				t.Errorf("%s; %s; %v, renamed by %v: the seats are %v, %v", showContest(x.c), show(x.p), x.lot, perm, seats, moved)
			}
			tied += len(before.Ties)
		}
		if tied < 100 {
			t.Errorf("rule %d: %d ties", rule, tied)
		}
	}
}

// All small ones, by each permutation.
func TestP22_3RenamingAFewBallots(t *testing.T) {
	for _, rule := range ruleNumbers() {
		for cands := 2; cands <= 3; cands++ {
			for i, p := range smallProfiles(cands, kindOf(rule), 2) {
				c, lot := contestOf(rule, cands, 1+i%mostSeats(rule, cands)), lots(cands)[i%(cands*(cands-1))]
				before, _ := count.Seats(run(t, c, p, lot), cands)
				for _, perm := range lots(cands) {
					after, _ := count.Seats(run(t, c, renamedProfile(p, perm), called(lot, perm)), cands)
					if !slices.Equal(called(perm, after), before) {
						t.Errorf("%s; %s; %v, renamed by %v: the seats are %v, %v", showContest(c), show(p), lot, perm, before, after)
					}
				}
			}
		}
	}
}
