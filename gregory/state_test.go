package gregory

import (
	"slices"
	"testing"

	"suffrage/api"
)

// What no call comes to, as it never elects beyond the votes or eliminates beyond the seats, is tested here from within.

func TestLostIsNotNegative(t *testing.T) {
	for _, c := range []struct {
		votes int
		had   []int
		want  int
	}{
		{10, []int{4, 3, 2}, 1},
		{10, []int{4, 4, 2}, 0},
		{10, []int{4, 4, 3}, 0},
		{0, []int{0, 0}, 0},
		{0, []int{1, 0}, 0},
		{7, nil, 7},
		{api.MaxMany * api.Unit, []int{1}, api.MaxMany*api.Unit - 1},
	} {
		if n := lost(c.votes, c.had); n != c.want {
			t.Errorf("of %d, lost beside %v are %d; want %d", c.votes, c.had, n, c.want)
		}
	}
}

// With more seats left than there are hopeful candidates, all of these are elected and the count ends.
func TestFewerHopefulCandidatesThanSeats(t *testing.T) {
	p := api.Profile{Cands: 3, Kind: api.KindRank, Rows: []api.Row{{Marks: []int{0}, Many: 2}, {Marks: []int{1}, Many: 9}}}
	for _, seats := range []int{3, 4, 7} {
		s := newState(p, 3, []int{2, 1, 0})
		s.seats = seats
		s.count()
		if o := s.Outcome(); s.seats != 0 || len(o.Rounds) != 1 || !slices.Equal(o.Elected, []int{1, 0, 2}) {
			t.Errorf("with %d seats: %v, and %d seats are left", seats, o, s.seats)
		}
	}
}
