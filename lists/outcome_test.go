package lists_test

import (
	"math/rand"
	"slices"
	"testing"

	"suffrage/api"
	"suffrage/profile"
	"suffrage/ratio"
)

// What holds of P20.1, P20.2 and P20.3 alike.

// Valid and invalid ballots

func TestNoRows(t *testing.T) {
	for _, rows := range [][]api.Row{nil, {}} {
		p := of(3, 2, rows...)
		for _, m := range divisorMethods() {
			m.check(t, p, 2, []int{1, 2, 0}, outcome([]int{0, 0, 0}, 0, []int{1, 1}, tie(1, 0, 1, 2), tie(1, 0, 1, 2)))
		}
		hare().check(t, p, 2, []int{1, 2, 0}, outcome([]int{0, 0, 0}, 0, []int{1, 2}, tie(1, 0, 1, 2), tie(2, 0, 2)))
	}
}

// Ballots that mark no party, or several, are a vote for none; all of them are lost.
func TestInvalidBallots(t *testing.T) {
	for _, c := range []struct {
		name    string
		rows    []api.Row
		invalid int
	}{
		{"blank", []api.Row{row(1)}, 1},
		{"many blank", []api.Row{row(million)}, million},
		{"two parties", []api.Row{row(7, 0, 2)}, 7},
		{"all parties", []api.Row{row(million, 0, 1, 2)}, million},
		{"several rows", []api.Row{row(3, 0, 1), row(2, 0, 1, 2), row(4, 0, 2), row(1, 1, 2)}, 10},
		{"some of each", []api.Row{row(5), row(3, 0, 1), row(million-8, 1, 2)}, million},
	} {
		t.Run(c.name, func(t *testing.T) {
			p := of(3, 2, c.rows...)
			for _, m := range divisorMethods() {
				m.check(t, p, 2, []int{2, 0, 1}, outcome([]int{0, 0, 0}, c.invalid, []int{2, 2}, tie(2, 0, 1, 2), tie(2, 0, 1, 2)))
			}
			hare().check(t, p, 4, []int{2, 0, 1}, outcome([]int{0, 0, 0}, c.invalid, []int{2, 0, 1, 2}, tie(2, 0, 1, 2), tie(0, 0, 1), tie(2, 0, 1, 2)))
		})
	}
}

// Invalid ballots change nothing but what is lost; above all not the number of valid votes, of which the shares are parts.
func TestInvalidBallotsBesideVotes(t *testing.T) {
	votes, lot := []int{53, 24, 23}, []int{2, 1, 0}
	rows := []api.Row{row(53, 0), row(24, 1), row(23, 2), row(40), row(1, 0, 1), row(500, 0, 2), row(60, 1, 2), row(7, 0, 1, 2)}
	dhondt().check(t, marking(3, rows...), 7, lot, outcome(votes, 608, []int{0, 0, 1, 2, 0, 0, 1}))
	sainte().check(t, marking(3, rows...), 7, lot, outcome(votes, 608, []int{0, 1, 2, 0, 0, 1, 2}))
	hare().check(t, marking(3, rows...), 7, lot, outcome(votes, 608, []int{0, 0, 0, 1, 2, 0, 1}))
	for _, m := range methods() {
		m.check(t, marking(2, row(999998), row(1, 1), row(1, 0, 1)), 3, []int{0, 1}, outcome([]int{0, 1}, 999999, []int{1, 1, 1}))
	}
}

func TestOneVote(t *testing.T) {
	for _, m := range methods() {
		for cands := 1; cands <= 10; cands++ {
			for party := range cands {
				votes := make([]int, cands)
				votes[party] = 1
				for seats := 1; seats <= 10; seats++ {
					for _, lot := range someLots(cands) {
						m.check(t, voting(votes...), seats, lot, outcome(votes, 0, slices.Repeat([]int{party}, seats)))
						m.check(t, marking(cands, row(1, party), row(9)), seats, lot, outcome(votes, 9, slices.Repeat([]int{party}, seats)))
					}
				}
			}
		}
	}
}

func TestOneParty(t *testing.T) {
	for _, m := range methods() {
		for seats := 1; seats <= 10; seats++ {
			all := make([]int, seats)
			m.check(t, of(1, 2), seats, []int{0}, outcome([]int{0}, 0, all))
			m.check(t, of(1, 2, row(5)), seats, []int{0}, outcome([]int{0}, 5, all))
			m.check(t, of(1, 2, row(5), row(4, 0)), seats, []int{0}, outcome([]int{4}, 5, all))
			m.check(t, of(1, 2, row(million, 0)), seats, []int{0}, outcome([]int{million}, 0, all))
		}
	}
}

func TestTenParties(t *testing.T) {
	votes := []int{3, 1, 4, 1, 5, 9, 2, 6, 5, 3}
	lot := []int{9, 8, 7, 6, 5, 4, 3, 2, 1, 0}
	dhondt().check(t, voting(votes...), 10, lot, outcome(votes, 0, []int{5, 7, 8, 4, 5, 2, 9, 7, 5, 0}, tie(8, 4, 8), tie(9, 0, 5, 7, 9), tie(7, 0, 5, 7), tie(5, 0, 5)))
	sainte().check(t, voting(votes...), 10, lot, outcome(votes, 0, []int{5, 7, 8, 4, 2, 9, 5, 0, 7, 6}, tie(8, 4, 8), tie(9, 0, 5, 9), tie(5, 0, 5), tie(7, 6, 7)))
	hare().check(t, voting(votes...), 10, lot, outcome(votes, 0, []int{2, 4, 5, 5, 7, 8, 9, 0, 7, 6}, tie(9, 0, 9)))
}

// As many ballots, and as many rows, as the limits allow.
func TestAtTheLimits(t *testing.T) {
	for _, m := range methods() {
		m.check(t, of(2, 2, row(million, 1)), 2, []int{0, 1}, outcome([]int{0, million}, 0, []int{1, 1}))
		m.check(t, of(3, 2, row(1, 0), row(999998, 1), row(1, 2)), 1, []int{0, 2, 1}, outcome([]int{1, 999998, 1}, 0, []int{1}))
		for _, p := range []api.Profile{fullProfile(2), unevenProfile()} {
			if many, e := profile.Many(p); many != million || e != api.OK || len(p.Rows) != 64 {
				t.Fatal(show(p), many, int(e))
			}
			for seats := 1; seats <= 10; seats++ {
				for _, lot := range someLots(10) {
					m.checkModel(t, p, seats, lot)
				}
			}
		}
	}
	// Each party alone has 15625 ballots of these.
	rest := million - 10*15625
	var votes []int
	for range 10 {
		votes = append(votes, 15625)
	}
	elected, l := inTurns(10, downFrom(10))
	dhondt().check(t, fullProfile(2), 10, downFrom(10), outcome(votes, rest, elected, l...))
	hare().check(t, fullProfile(2), 10, downFrom(10), outcome(votes, rest, upTo(10)))
}

// Seats

// There may be more seats than parties, and as many as MaxSeats.
func TestAnyNumberOfSeats(t *testing.T) {
	random := rand.New(rand.NewSource(2011))
	for _, m := range methods() {
		for cands := 1; cands <= 10; cands++ {
			for _, p := range []api.Profile{of(cands, 2), of(cands, 2, row(5)), randomProfile(random, cands), levelProfile(random, cands)} {
				for seats := 1; seats <= api.MaxSeats; seats++ {
					o, e := m.checkModel(t, p, seats, random.Perm(cands))
					if e != api.OK || len(o.Elected) != seats {
						t.Errorf("%s of %s, %d seats: %v, %d", m.name, show(p), seats, o, int(e))
					}
				}
				for _, seats := range append(wilds(), -cands, cands+1<<8, cands+1<<32, cands-1<<32, 10+1<<16) {
					if seats < 1 || seats > 10 {
						m.checkError(t, p, seats, random.Perm(cands), api.ErrArg)
					}
				}
			}
		}
	}
}

// Errors

func TestWrongProfiles(t *testing.T) {
	for _, m := range methods() {
		for want, l := range wrongProfiles() {
			for _, p := range l {
				if e := profile.Check(p); e != want {
					t.Errorf("the error of %s is %d; want %d", show(p), int(e), int(want))
				}
				m.checkError(t, p, 1, []int{0, 1}, api.ErrBad)
				m.checkError(t, p, 1, upTo(min(max(p.Cands, 0), 20)), api.ErrBad)
				m.checkError(t, p, 0, nil, api.ErrBad)
			}
		}
	}
}

func TestWrongKinds(t *testing.T) {
	for _, m := range methods() {
		for kind := range 256 {
			for _, p := range []api.Profile{of(2, uint8(kind)), of(2, uint8(kind), row(1, 0, 1)), of(2, uint8(kind), row(3, 1)), of(1, uint8(kind), row(1, 0))} {
				if kind == 2 {
					m.checkModel(t, p, 1, upTo(p.Cands))
					continue
				}
				m.checkError(t, p, 1, upTo(p.Cands), api.ErrBad)
			}
		}
		m.checkError(t, fullProfile(1), 1, upTo(10), api.ErrBad)
		m.checkError(t, fullProfile(3), 1, upTo(10), api.ErrBad)
	}
	for _, kind := range []uint8{1, 3} {
		if e := profile.Check(fullProfile(kind)); e != api.OK {
			t.Errorf("the profile of kind %d has error %d", kind, int(e))
		}
	}
}

func TestWrongLots(t *testing.T) {
	for _, m := range methods() {
		for cands := 1; cands <= 10; cands++ {
			p := of(cands, 2, row(3, cands-1))
			if cands == 10 {
				p = fullProfile(2)
			}
			for _, lot := range wrongLots(cands) {
				m.checkError(t, p, 1, lot, api.ErrArg)
				m.checkError(t, of(cands, 2), 10, lot, api.ErrArg)
			}
		}
	}
}

// The model

// Every profile of few votes, with every lot and up to five seats.
func TestSmallProfilesHaveTheModelsOutcomes(t *testing.T) {
	outcomes, tied := 0, 0
	for cands := 1; cands <= 3; cands++ {
		for _, votes := range numbers(cands, 7) {
			for _, lot := range lots(cands) {
				for seats := range 6 {
					for _, m := range methods() {
						o, _ := m.checkModel(t, voting(votes...), seats, lot)
						outcomes += len(o.Rounds)
						tied += len(o.Ties)
					}
				}
			}
		}
	}
	if outcomes < 30000 || tied < 10000 {
		t.Errorf("%d outcomes, %d ties", outcomes, tied)
	}
}

// numbers returns all lists of so many numbers less than below.
func numbers(length, below int) [][]int {
	if length == 0 {
		return [][]int{nil}
	}
	var all [][]int
	for _, l := range numbers(length-1, below) {
		for n := range below {
			all = append(all, append(slices.Clone(l), n))
		}
	}
	return all
}

func TestRandomProfilesHaveTheModelsOutcomes(t *testing.T) {
	random := rand.New(rand.NewSource(2012))
	outcomes, tied, lost := 0, 0, 0
	for range 8000 {
		p := anyProfile(random)
		seats, lot := 1+random.Intn(10), random.Perm(p.Cands)
		for _, m := range methods() {
			o, e := m.checkModel(t, p, seats, lot)
			if e != api.OK {
				t.Fatal(show(p), int(e))
			}
			outcomes++
			tied += len(o.Ties)
			lost += len(o.Rounds[0].Lost.Num)
		}
	}
	if outcomes != 24000 || tied < 10000 || lost < 5000 {
		t.Errorf("%d outcomes, %d ties, and in %d something is lost", outcomes, tied, lost)
	}
}

// The outcome

// The form of every outcome, whatever it says.
func TestTheWholeOutcome(t *testing.T) {
	random := rand.New(rand.NewSource(2013))
	for range 3000 {
		p := anyProfile(random)
		seats, lot := 1+random.Intn(10), random.Perm(p.Cands)
		many, e := profile.Many(p)
		if e != api.OK {
			t.Fatal(show(p), int(e))
		}
		for _, m := range methods() {
			o := m.run(t, p, seats, lot)
			r := o.Rounds[0]
			if !slices.Equal(r.Elected, o.Elected) || len(r.Out) != 0 {
				t.Errorf("%s of %s: %v", m.name, show(p), o)
			}
			sum := r.Lost
			for _, n := range r.Had {
				sum, e = ratio.Add(sum, n)
				if e != api.OK {
					t.Errorf("%s of %s: %v", m.name, show(p), r)
				}
			}
			if !ratio.Same(sum, ratio.Whole(many)) {
				t.Errorf("%s of %s: %v add up to %v", m.name, show(p), r, sum)
			}
			if slices.Min(o.Elected) < 0 || slices.Max(o.Elected) >= p.Cands {
				t.Errorf("%s of %s: %v", m.name, show(p), o)
			}
			m.checkTies(t, p, o, lot)
		}
	}
}

// checkTies holds the ties of an outcome against its seats: each chooses the party of a later seat than the one before, among several parties in order, as the one that comes first in the lot.
func (m method) checkTies(t *testing.T, p api.Profile, o api.Outcome, lot []int) {
	t.Helper()
	rest := o.Elected
	for _, x := range o.Ties {
		at := slices.Index(rest, x.Chosen)
		if at < 0 || len(x.Among) < 2 || !slices.IsSorted(x.Among) || len(slices.Compact(slices.Clone(x.Among))) < len(x.Among) {
			t.Fatalf("%s of %s, lot %v: %v", m.name, show(p), lot, o)
		}
		rest = rest[at+1:]
		if chosen, _ := pick(x.Among, lot); chosen != x.Chosen {
			t.Errorf("%s of %s, lot %v: %v", m.name, show(p), lot, o)
		}
	}
}

// The numbers of votes are those of the rows, whatever they are, and 0 where there is no row.
func TestHadAndLost(t *testing.T) {
	for _, m := range methods() {
		p := marking(4, row(1), row(999000, 0), row(255, 2), row(256, 3), row(100, 0, 2), row(388, 1, 2, 3))
		if o := m.run(t, p, 1, upTo(4)); !same(o, outcome([]int{999000, 0, 255, 256}, 489, []int{0})) {
			t.Errorf("%s of %s: %v", m.name, show(p), o)
		}
	}
}
