package lists_test

import (
	"cmp"
	"math/big"
	"math/rand"
	"slices"
	"testing"

	"suffrage/api"
	"suffrage/profile"
)

// P20.4

// quotient returns that of a divisor method.
func (m method) quotient(v, s int) *big.Rat {
	if m.name == "DHondt" {
		return dhondtQuotient(v, s)
	}
	return sainteQuotient(v, s)
}

// The last quotient with which a party got a seat is at least the next one of every other party.
func TestP20_4DivisorMethodsAreStable(t *testing.T) {
	random := rand.New(rand.NewSource(2021))
	level, less := 0, 0
	for range 5000 {
		p := anyProfile(random)
		votes, _ := modelVotes(p)
		for _, m := range divisorMethods() {
			o := m.run(t, p, 1+random.Intn(10), random.Perm(p.Cands))
			for party, n := range votes {
				had := number(o.Elected, party)
				if had == 0 {
					continue
				}
				last := m.quotient(n, had-1)
				for other, v := range votes {
					switch order := last.Cmp(m.quotient(v, number(o.Elected, other))); {
					case other == party:
					case order < 0:
						t.Errorf("%s of %s: %v; %d has lost a seat to %d", m.name, show(p), o, other, party)
					case order == 0:
						level++
					default:
						less++
					}
				}
			}
		}
	}
	if level < 3000 || less < 3000 {
		t.Errorf("%d next quotients are as great as the last ones, and %d are less", level, less)
	}
}

// The seats go to the greatest of all quotients, in their order; by the order of the lot where they are equal.
func TestP20_4TheGreatestQuotients(t *testing.T) {
	type seat struct {
		party, had int
		quotient   *big.Rat
	}
	random := rand.New(rand.NewSource(2022))
	for range 3000 {
		p := anyProfile(random)
		votes, _ := modelVotes(p)
		seats, lot := 1+random.Intn(10), random.Perm(p.Cands)
		for _, m := range divisorMethods() {
			var all []seat
			for party, n := range votes {
				for had := range seats {
					all = append(all, seat{party, had, m.quotient(n, had)})
				}
			}
			slices.SortFunc(all, func(x, y seat) int {
				return cmp.Or(y.quotient.Cmp(x.quotient), cmp.Compare(slices.Index(lot, x.party), slices.Index(lot, y.party)), cmp.Compare(x.had, y.had))
			})
			var want []int
			for _, x := range all[:seats] {
				want = append(want, x.party)
			}
			if o := m.run(t, p, seats, lot); !slices.Equal(o.Elected, want) {
				t.Errorf("%s of %s, lot %v: %v; want %v", m.name, show(p), lot, o, want)
			}
		}
	}
}

// With one seat more the same seats are allocated first, with the same ties, and then one more.
func TestP20_4DivisorMethodsAreHouseMonotone(t *testing.T) {
	random := rand.New(rand.NewSource(2023))
	for range 3000 {
		p := anyProfile(random)
		lot := random.Perm(p.Cands)
		for _, m := range divisorMethods() {
			before := api.Outcome{}
			for seats := 1; seats <= 10; seats++ {
				o := m.run(t, p, seats, lot)
				if len(o.Ties) < len(before.Ties) || len(o.Ties) > len(before.Ties)+1 || !slices.Equal(o.Elected[:seats-1], before.Elected) || !sameTies(o.Ties[:len(before.Ties)], before.Ties) {
					t.Errorf("%s of %s, lot %v: %v, and with a seat more %v", m.name, show(p), lot, before, o)
				}
				if len(o.Ties) > len(before.Ties) && o.Ties[len(o.Ties)-1].Chosen != o.Elected[seats-1] {
					t.Errorf("%s of %s, lot %v: the last tie of %v", m.name, show(p), lot, o)
				}
				before = o
			}
		}
	}
}

// Largest remainders are not house-monotone: with a seat more, a party may have one less.
func TestP20_4HareIsNotHouseMonotone(t *testing.T) {
	votes, lot := []int{5, 3, 1}, []int{2, 1, 0}
	hare().check(t, voting(votes...), 4, lot, outcome(votes, 0, []int{0, 0, 1, 2}))
	hare().check(t, voting(votes...), 5, lot, outcome(votes, 0, []int{0, 0, 1, 0, 1}))
}

// bounds returns the floor and the ceiling of each party's exact share.
func bounds(votes []int, seats int) (floors, ceilings []int) {
	floors, remainders := modelShares(votes, seats)
	for party, n := range floors {
		ceilings = append(ceilings, n+remainders[party].Sign())
	}
	return floors, ceilings
}

// Where there are votes, largest remainders give each party the floor or the ceiling of its exact share, and D'Hondt never less than the floor.
func TestP20_4Quota(t *testing.T) {
	random := rand.New(rand.NewSource(2024))
	seen := map[string]int{}
	for range 8000 {
		p := anyProfile(random)
		votes, _ := modelVotes(p)
		if slices.Max(votes) == 0 {
			continue
		}
		seats, lot := 1+random.Intn(10), random.Perm(p.Cands)
		floors, ceilings := bounds(votes, seats)
		shared, divided := hare().run(t, p, seats, lot), dhondt().run(t, p, seats, lot)
		for party, floor := range floors {
			switch n := number(shared.Elected, party); {
			case n < floor || n > ceilings[party]:
				t.Errorf("Hare of %s, %d seats, lot %v: %v; %d has no %d seats", show(p), seats, lot, shared, party, n)
			case floor == ceilings[party]:
				seen["an exact share"]++
			case n == floor:
				seen["the floor"]++
			default:
				seen["the ceiling"]++
			}
			switch n := number(divided.Elected, party); {
			case n < floor:
				t.Errorf("DHondt of %s, %d seats, lot %v: %v; %d has less than %d seats", show(p), seats, lot, divided, party, floor)
			case n > ceilings[party]:
				seen["more than the ceiling by D'Hondt"]++
			}
		}
	}
	if len(seen) != 4 || slices.ContainsFunc([]string{"an exact share", "the floor", "the ceiling", "more than the ceiling by D'Hondt"}, func(s string) bool { return seen[s] < 100 }) {
		t.Errorf("the seats are %v", seen)
	}
}

// A party with more votes than another one never gets fewer seats, whatever the lot.
func TestP20_4MoreVotesNeverGetFewerSeats(t *testing.T) {
	random := rand.New(rand.NewSource(2025))
	pairs := 0
	for range 5000 {
		p := anyProfile(random)
		votes, _ := modelVotes(p)
		order := upTo(p.Cands) // the fewest votes first, who are favored by this lot
		slices.SortFunc(order, func(x, y int) int { return cmp.Compare(votes[x], votes[y]) })
		seats := 1 + random.Intn(10)
		for _, m := range methods() {
			for _, lot := range [][]int{order, random.Perm(p.Cands)} {
				o := m.run(t, p, seats, lot)
				for x, more := range votes {
					for y, less := range votes {
						if more <= less {
							continue
						}
						pairs++
						if number(o.Elected, x) < number(o.Elected, y) {
							t.Errorf("%s of %s, %d seats, lot %v: %v; %d has more votes than %d", m.name, show(p), seats, lot, o, x, y)
						}
					}
				}
			}
		}
	}
	if pairs < 100000 {
		t.Errorf("%d pairs of parties have other votes", pairs)
	}
}

// Who is elected, and the ties, are the same if all counts are multiplied by the same number.
func TestP20_4MultiplyingAllCounts(t *testing.T) {
	random := rand.New(rand.NewSource(2026))
	tied, multiplied := 0, 0
	for range 5000 {
		p := anyProfile(random)
		many, e := profile.Many(p)
		if e != api.OK {
			t.Fatal(show(p), int(e))
		}
		most := million / max(many, 1)
		seats, lot := 1+random.Intn(10), random.Perm(p.Cands)
		for _, times := range []int{min(2, most), min(3, most), min(97, most), most} {
			if times > 1 {
				multiplied++
			}
			q := profile.Twin(p)
			for i := range q.Rows {
				q.Rows[i].Many *= times
			}
			for _, m := range methods() {
				o, again := m.run(t, p, seats, lot), m.run(t, q, seats, lot)
				if !slices.Equal(o.Elected, again.Elected) || !sameTies(o.Ties, again.Ties) {
					t.Errorf("%s of %s, %d seats, lot %v: %v, and %d times %v", m.name, show(p), seats, lot, o, times, again)
				}
				tied += len(o.Ties)
			}
		}
	}
	if tied < 10000 || multiplied < 10000 {
		t.Errorf("%d ties, and %d are multiplied", tied, multiplied)
	}
}

// Renaming the parties, and the lot with them, renames the outcome; by Hare, whose first seats are in ascending order of the party, these are put in order again.
func TestP20_4RenamingRenamesTheOutcome(t *testing.T) {
	random := rand.New(rand.NewSource(2027))
	tied := 0
	for range 5000 {
		p := anyProfile(random)
		seats, lot, perm := 1+random.Intn(10), random.Perm(p.Cands), random.Perm(p.Cands)
		q, e := profile.Rename(p, perm)
		if e != api.OK {
			t.Fatal(show(p), int(e))
		}
		votes, _ := modelVotes(p)
		first := 0 // the seats that Hare gives first
		for _, n := range modelFloors(votes, seats) {
			first += n
		}
		for _, m := range methods() {
			want := modelRename(m.run(t, p, seats, lot), perm)
			if m.name == "Hare" {
				slices.Sort(want.Elected[:first])
				slices.Sort(want.Rounds[0].Elected[:first])
			}
			if o := m.run(t, q, seats, called(lot, perm)); !same(o, want) {
				t.Errorf("%s of %s, %d seats, lot %v, renamed by %v: %v; want %v", m.name, show(p), seats, lot, perm, o, want)
			}
			tied += len(want.Ties)
		}
	}
	if tied < 5000 {
		t.Errorf("%d ties are renamed", tied)
	}
}
