package quota_test

import (
	"math"
	"testing"

	"suffrage/api"
)

// wantQuotas holds the three quotas of some votes and seats against the model.
func wantQuotas(t *testing.T, votes, seats int) {
	t.Helper()
	if got, want := droop(votes, seats), modelDroop(votes, seats); !got.equal(want) {
		t.Errorf("Droop of %d votes and %d seats = %v; want %v", votes, seats, got, want)
	}
	if got, want := hare(votes, seats), modelHare(votes, seats); !got.equal(want) {
		t.Errorf("Hare of %d votes and %d seats = %v; want %v", votes, seats, got, want)
	}
	if got, want := hagenbach(votes, seats), modelHagenbach(votes, seats); !got.equal(want) {
		t.Errorf("Hagenbach of %d votes and %d seats = %v; want %v", votes, seats, got, want)
	}
}

// written returns n/d, which is in lowest terms, in the form of the program.
func written(n, d uint32) api.Ratio {
	if n == 0 {
		return api.Ratio{Den: []uint32{d}}
	}
	return api.Ratio{Num: []uint32{n}, Den: []uint32{d}}
}

// P17.1

func TestP17_1Quotas(t *testing.T) {
	for _, c := range []struct {
		votes, seats    int
		droop           int
		hare, hagenbach api.Ratio
	}{
		{100, 3, 26, written(100, 3), written(25, 1)},
		{0, 1, 1, written(0, 1), written(0, 1)},
		{0, 2, 1, written(0, 1), written(0, 1)},
		{0, 10, 1, written(0, 1), written(0, 1)},
		{1, 1, 1, written(1, 1), written(1, 2)},
		{1, 2, 1, written(1, 2), written(1, 3)},
		{1, 10, 1, written(1, 10), written(1, 11)},
		{2, 1, 2, written(2, 1), written(1, 1)},
		{3, 1, 2, written(3, 1), written(3, 2)},
		{4, 6, 1, written(2, 3), written(4, 7)},
		{6, 4, 2, written(3, 2), written(6, 5)},
		{98, 3, 25, written(98, 3), written(49, 2)},
		{99, 3, 25, written(33, 1), written(99, 4)},
		{101, 3, 26, written(101, 3), written(101, 4)},
		{10, 10, 1, written(1, 1), written(10, 11)},
		{11, 10, 2, written(11, 10), written(1, 1)},
		{12, 10, 2, written(6, 5), written(12, 11)},
		{999_999, 1, 500_000, written(999_999, 1), written(999_999, 2)},
		{999_999, 2, 333_334, written(999_999, 2), written(333_333, 1)},
		{999_999, 10, 90_910, written(999_999, 10), written(90_909, 1)},
		{1_000_000, 1, 500_001, written(1_000_000, 1), written(500_000, 1)},
		{1_000_000, 2, 333_334, written(500_000, 1), written(1_000_000, 3)},
		{1_000_000, 10, 90_910, written(100_000, 1), written(1_000_000, 11)},
	} {
		if got := droop(c.votes, c.seats); !got.equal(answer{n: c.droop}) {
			t.Errorf("Droop of %d votes and %d seats = %v", c.votes, c.seats, got)
		}
		if got := hare(c.votes, c.seats); !got.equal(answer{ratio: c.hare}) {
			t.Errorf("Hare of %d votes and %d seats = %v", c.votes, c.seats, got)
		}
		if got := hagenbach(c.votes, c.seats); !got.equal(answer{ratio: c.hagenbach}) {
			t.Errorf("Hagenbach of %d votes and %d seats = %v", c.votes, c.seats, got)
		}
		wantQuotas(t, c.votes, c.seats)
	}
}

// Votes that seats or seats + 1 divides, and one less and one more.
func TestP17_1Divisors(t *testing.T) {
	for seats := 1; seats <= 10; seats++ {
		for _, divisor := range []int{seats, seats + 1} {
			for _, times := range []int{0, 1, 2, 3, 7, 12, 1000, 5041, 65536, million/divisor - 1, million / divisor} {
				for more := -1; more <= 1; more++ {
					wantQuotas(t, times*divisor+more, seats)
				}
			}
		}
	}
}

func TestP17_1EverySmallCount(t *testing.T) {
	for votes := -2; votes <= 400; votes++ {
		for seats := -1; seats <= 12; seats++ {
			wantQuotas(t, votes, seats)
		}
	}
}

func TestP17_1GreatCounts(t *testing.T) {
	for votes := million - 120; votes <= million+2; votes++ {
		for seats := 0; seats <= 11; seats++ {
			wantQuotas(t, votes, seats)
		}
	}
	for votes := 0; votes <= million; votes += 4999 {
		for seats := 1; seats <= 10; seats++ {
			wantQuotas(t, votes, seats)
		}
	}
}

func TestP17_1OutOfRange(t *testing.T) {
	goodVotes, badVotes := []int{0, 1, 100, million - 1, million}, []int{-1, -2, -million, million + 1, math.MinInt, math.MinInt + 1, math.MaxInt - 1, math.MaxInt, math.MinInt32, 1 << 32, -1 << 32}
	goodSeats, badSeats := []int{1, 2, 9, 10}, []int{0, -1, -2, -10, 11, 12, math.MinInt, math.MinInt + 1, math.MaxInt - 1, math.MaxInt, math.MaxInt32, 1 << 32, 1<<32 + 1}
	reject := func(votes, seats int) {
		for name, do := range map[string]func(votes, seats int) answer{"Droop": droop, "Hare": hare, "Hagenbach": hagenbach} {
			if got := do(votes, seats); !got.isError(api.ErrArg) {
				t.Errorf("%s of %d votes and %d seats = %v", name, votes, seats, got)
			}
		}
		wantQuotas(t, votes, seats)
	}
	for _, votes := range badVotes {
		for _, seats := range append(goodSeats, badSeats...) {
			reject(votes, seats)
		}
	}
	for _, seats := range badSeats {
		for _, votes := range goodVotes {
			reject(votes, seats)
		}
	}
	for _, votes := range goodVotes {
		for _, seats := range goodSeats {
			wantQuotas(t, votes, seats)
		}
	}
}
