package meek

import (
	"slices"
	"testing"

	"suffrage/api"
)

// What no call comes to, as it never eliminates beyond the seats, is tested here from within: with more seats left than there are hopeful candidates, all of these are elected and the count ends.
func TestFewerHopefulCandidatesThanSeats(t *testing.T) {
	p := api.Profile{Cands: 3, Kind: api.KindRank, Rows: []api.Row{{Marks: []int{0}, Many: 2}, {Marks: []int{1}, Many: 9}}}
	for _, seats := range []int{3, 4, 7} {
		s := newState(p, 3, []int{2, 1, 0})
		s.free = seats
		s.count()
		if o := s.Outcome(); s.free != 0 || len(o.Rounds) != 1 || !slices.Equal(o.Elected, []int{1, 0, 2}) {
			t.Errorf("with %d seats: %v, and %d seats are left", seats, o, s.free)
		}
	}
}
