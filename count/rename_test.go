package count_test

import (
	"math/rand"
	"slices"
	"testing"

	"suffrage/api"
	"suffrage/count"
)

// P22.2: Rename

func TestP22_2RenameOfTheExample(t *testing.T) {
	p, lot := theExample()
	for rule := uint8(5); rule <= 10; rule++ {
		o := run(t, contestOf(rule, 2, 1), p, lot)
		had := map[uint8]string{5: "0 1", 6: "1 0", 7: "0 1", 8: "0 1", 9: "2 3", 10: "2 3"}[rule]
		checkRename(t, o, ints(1, 0), outcome(ints(1), []round{{had, "0", ints(1), nil}}))
	}
}

func TestP22_2Rename(t *testing.T) {
	o := outcome(ints(2, 0), []round{{"1 2 3", "1/2", ints(2), nil}, {"4 5 -6", "0", nil, ints(1, 0)}}, tie(2, 1, 2), tie(0, 0, 1, 2))
	checkRename(t, o, ints(0, 1, 2), o)
	checkRename(t, o, ints(1, 2, 0), outcome(ints(0, 1), []round{{"3 1 2", "1/2", ints(0), nil}, {"-6 4 5", "0", nil, ints(2, 1)}}, tie(0, 0, 2), tie(1, 0, 1, 2)))
	checkRename(t, o, ints(2, 0, 1), outcome(ints(1, 2), []round{{"2 3 1", "1/2", ints(1), nil}, {"5 -6 4", "0", nil, ints(0, 2)}}, tie(1, 0, 1), tie(2, 0, 1, 2)))
	checkRename(t, o, ints(1, 0, 2), outcome(ints(2, 1), []round{{"2 1 3", "1/2", ints(2), nil}, {"5 4 -6", "0", nil, ints(0, 1)}}, tie(2, 0, 2), tie(1, 0, 1, 2)))
}

// Elected and Out stay in their order, Among is in increasing order, also if it was not before, and what is there twice stays there twice.
func TestP22_2RenameKeepsAndMakesOrder(t *testing.T) {
	o := outcome(ints(0, 3, 1, 3, 0), []round{{"1 1 1 1", "7", ints(3, 0, 3), ints(1, 1, 2)}}, tie(3, 3, 0, 1), tie(1, 2, 2, 0, 2), tie(0))
	checkRename(t, o, ints(3, 1, 0, 2), outcome(ints(3, 2, 1, 2, 3), []round{{"1 1 1 1", "7", ints(2, 3, 2), ints(1, 1, 0)}}, tie(2, 1, 2, 3), tie(1, 0, 0, 0, 3), tie(3)))
	checkRename(t, o, upTo(4), outcome(ints(0, 3, 1, 3, 0), []round{{"1 1 1 1", "7", ints(3, 0, 3), ints(1, 1, 2)}}, tie(3, 0, 1, 3), tie(1, 0, 2, 2, 2), tie(0)))
}

// Chosen is renamed by itself, whether it is one of Among or not.
func TestP22_2RenameChosen(t *testing.T) {
	o := outcome(nil, nil, tie(2), tie(1, 0, 2), tie(0, 0))
	checkRename(t, o, ints(2, 0, 1), outcome(nil, nil, tie(1), tie(0, 1, 2), tie(2, 2)))
}

// Had's numbers move, whatever they are, and Lost stays.
func TestP22_2RenameWhateverNumbers(t *testing.T) {
	odd := oddNumbers()
	for _, perm := range [][]int{upTo(10), downFrom(10), {1, 2, 3, 4, 5, 6, 7, 8, 9, 0}, {4, 9, 0, 2, 7, 1, 3, 8, 6, 5}} {
		for from := 0; from+10 <= len(odd); from++ {
			o := api.Outcome{Rounds: []api.Round{{Had: odd[from : from+10], Lost: odd[from]}, {Had: numbers("0 1 2 3 4 5 6 7 8 9"), Lost: odd[12-from]}}}
			n := renamed(t, o, perm)
			for i, c := range perm {
				for j, r := range n.Rounds {
					if !same(api.Outcome{Rounds: []api.Round{{Lost: r.Had[c]}}}, api.Outcome{Rounds: []api.Round{{Lost: o.Rounds[j].Had[i]}}}) {
						t.Errorf("%s, %v: %s", tell(o), perm, tell(n))
					}
				}
			}
			checkModelRename(t, o, perm)
		}
	}
}

// An outcome that tells of nobody may be renamed by any permutation.
func TestP22_2RenameOfNobody(t *testing.T) {
	for n := 1; n <= 10; n++ {
		for _, perm := range [][]int{upTo(n), downFrom(n), append(upTo(n)[1:], 0)} {
			for _, o := range []api.Outcome{{}, {Elected: []int{}, Rounds: []api.Round{}, Ties: []api.Tie{}}} {
				checkRename(t, o, perm, api.Outcome{})
			}
		}
	}
}

func TestP22_2RenameByNoPermutation(t *testing.T) {
	for n := 1; n <= 10; n++ {
		for _, o := range []api.Outcome{{}, electing(0), outcome(nil, []round{{"1 2 3", "0", nil, nil}}), electing(11), longOutcome()} {
			for _, perm := range wrongPerms(n) {
				checkNoRename(t, o, perm)
			}
		}
	}
	for _, perm := range [][]int{nil, {}, upTo(3)[:0], {-1}, {1}, {0, 0}, {1, 1}, {0, 2}, {2, 0}, {0, -1}, {1 << 32, 0}, upTo(11), downFrom(11), upTo(12), upTo(1000)} {
		for _, o := range []api.Outcome{{}, electing(0), electing(10), longOutcome()} {
			checkNoRename(t, o, perm)
		}
	}
}

// Elected, Elected and Out of each round, Among and Chosen of each tie: one that is no candidate in any of them.
func TestP22_2RenameOfNoCandidates(t *testing.T) {
	for _, c := range noCandidates(3) {
		spoil := func(turn func(o *api.Outcome)) {
			t.Helper()
			o := longOutcome()
			turn(&o)
			checkNoRename(t, o, upTo(3))
			checkNoRename(t, o, ints(2, 0, 1))
		}
		for i := range 3 {
			spoil(func(o *api.Outcome) { o.Elected[i] = c })
			spoil(func(o *api.Outcome) { o.Ties[i].Chosen = c })
			spoil(func(o *api.Outcome) { o.Rounds[i].Out = ints(c) })
			spoil(func(o *api.Outcome) { o.Rounds[i].Elected = ints(c) })
			spoil(func(o *api.Outcome) { o.Ties[i].Among = ints(c) })
			for j := range 3 {
				spoil(func(o *api.Outcome) { o.Rounds[i].Elected[j] = c })
				spoil(func(o *api.Outcome) { o.Rounds[i].Out[j] = c })
				spoil(func(o *api.Outcome) { o.Ties[i].Among[j] = c })
			}
		}
	}
}

// Every round has one total for each candidate: not one fewer, one more, or none.
func TestP22_2RenameOfOtherTotals(t *testing.T) {
	for i := range 3 {
		for n := range 12 {
			o := longOutcome()
			o.Rounds[i].Had = numbers("0 1 2 3 4 5 6 7 8 9 10 11")[:n]
			if n == 3 {
				renamed(t, o, ints(1, 2, 0))
			} else {
				checkNoRename(t, o, ints(1, 2, 0))
			}
		}
	}
	for n := 1; n <= 10; n++ {
		for totals := range 13 {
			o := api.Outcome{Rounds: []api.Round{{Had: make([]api.Ratio, totals)}}}
			if e := checkModelRename(t, o, downFrom(n)); (e == api.OK) != (n == totals) {
				t.Errorf("%d totals, %d candidates: error %d", totals, n, int(e))
			}
		}
	}
}

// A permutation of more candidates than an outcome tells of is all right, if there are no rounds.
func TestP22_2RenameAmongMore(t *testing.T) {
	o := outcome(ints(1, 0), nil, tie(1, 0, 1))
	checkRename(t, o, ints(1, 0), outcome(ints(0, 1), nil, tie(0, 0, 1)))
	checkRename(t, o, downFrom(10), outcome(ints(8, 9), nil, tie(8, 8, 9)))
	checkNoRename(t, o, ints(0))
}

func TestP22_2RenameAndBack(t *testing.T) {
	for _, perm := range lots(3) {
		n := renamed(t, longOutcome(), perm)
		back := longOutcome()
		for i := range back.Ties {
			slices.Sort(back.Ties[i].Among)
		}
		checkRename(t, n, inverse(perm), back)
	}
	random := rand.New(rand.NewSource(2222))
	for range 2000 {
		cands := 1 + random.Intn(10)
		o, perm := randomOutcome(random, cands), random.Perm(cands)
		for i := range o.Ties {
			slices.Sort(o.Ties[i].Among)
		}
		checkRename(t, renamed(t, o, perm), inverse(perm), o)
		checkRename(t, o, upTo(cands), o)
	}
}

// One renaming after the other is one renaming.
func TestP22_2RenameTwice(t *testing.T) {
	random := rand.New(rand.NewSource(2223))
	for range 2000 {
		cands := 1 + random.Intn(10)
		o, first, second := randomOutcome(random, cands), random.Perm(cands), random.Perm(cands)
		checkRename(t, o, called(first, second), renamed(t, renamed(t, o, first), second))
	}
}

func TestP22_2RandomRenamings(t *testing.T) {
	random := rand.New(rand.NewSource(2224))
	right := 0
	for range 5000 {
		cands := 1 + random.Intn(10)
		perm := random.Perm(cands)
		switch random.Intn(4) {
		case 0:
			perm = random.Perm(1 + random.Intn(11))
		case 1:
			perm = spoiltList(random, perm)
		}
		if e := checkModelRename(t, randomOutcome(random, cands), perm); e == api.OK {
			right++
		}
	}
	if right < 2000 || right > 4500 {
		t.Errorf("%d are right", right)
	}
}

// A renamed outcome is that of the renamed profile and lot, but for the order of the first seats by largest remainders.
func TestP22_2RenameAndRun(t *testing.T) {
	random := rand.New(rand.NewSource(2225))
	for range 100 {
		for rule := uint8(1); rule <= 15; rule++ {
			cands := 1 + random.Intn(6)
			c, p, lot, perm := contestOf(rule, cands, 1+random.Intn(mostSeats(rule, cands))), randomProfile(random, cands, kindOf(rule)), random.Perm(cands), random.Perm(cands)
			if n, o := renamed(t, run(t, c, p, lot), perm), run(t, c, renamedProfile(p, perm), called(lot, perm)); !count.Same(n, o) {
				t.Errorf("%s; %s; %v: renamed by %v %s; want %s", showContest(c), show(p), lot, perm, tell(n), tell(o))
			}
		}
	}
}
