package quota_test

import (
	"math/big"
	"math/rand"
	"testing"

	"suffrage/api"
	"suffrage/quota"
	"suffrage/ratio"
)

// P17.4

// someVotes returns numbers of votes: small ones, great ones, and some between.
func someVotes() []int {
	var l []int
	for votes := 0; votes <= 300; votes++ {
		l = append(l, votes, million-votes)
	}
	for votes := 301; votes < million-300; votes += 3331 {
		l = append(l, votes)
	}
	return l
}

// Every number of votes: one more candidate than there are seats cannot have the quota, and could have one less.
func TestP17_4DroopIsTheSmallest(t *testing.T) {
	for votes := 0; votes <= million; votes++ {
		for seats := 1; seats <= 10; seats++ {
			q, e := quota.Droop(votes, seats)
			if e != api.OK || (seats+1)*q <= votes || (seats+1)*(q-1) > votes {
				t.Fatalf("%d votes, %d seats: quota %d, error %d", votes, seats, q, int(e))
			}
		}
	}
}

// The smallest number that at most as many candidates as there are seats can have is found by trying.
func TestP17_4DroopBySearch(t *testing.T) {
	for votes := 0; votes <= 200; votes++ {
		for seats := 1; seats <= 10; seats++ {
			q := 1
			for votes/q > seats { // so many candidates can have q votes
				q++
			}
			if got := droop(votes, seats); !got.equal(answer{n: q}) {
				t.Errorf("%d votes, %d seats: %v; want %d", votes, seats, got, q)
			}
		}
	}
}

func TestP17_4QuotasInOrder(t *testing.T) {
	for _, votes := range someVotes() {
		for seats := 1; seats <= 10; seats++ {
			d, e := quota.Droop(votes, seats)
			b, e2 := quota.Hagenbach(votes, seats)
			h, e3 := quota.Hare(votes, seats)
			if e != api.OK || e2 != api.OK || e3 != api.OK {
				t.Fatalf("%d votes, %d seats: errors %d, %d and %d", votes, seats, int(e), int(e2), int(e3))
			}
			more, _ := ratio.Sub(ratio.Whole(d), b)
			above, _ := ratio.Cmp(more, ratio.Whole(0))
			atMost, _ := ratio.Cmp(more, ratio.Whole(1))
			if above != 1 || atMost == 1 {
				t.Errorf("%d votes, %d seats: Droop %d, Hagenbach-Bischoff %v", votes, seats, d, b)
			}
			order, _ := ratio.Cmp(b, h)
			none := ratio.Same(b, ratio.Whole(0)) && ratio.Same(h, ratio.Whole(0))
			if votes > 0 && (order != -1 || none) || votes == 0 && !none {
				t.Errorf("%d votes, %d seats: Hagenbach-Bischoff %v, Hare %v", votes, seats, b, h)
			}
		}
	}
}

// The Hare quotas of all seats are all votes, and so are the Hagenbach-Bischoff quotas of one seat more.
func TestP17_4QuotasTimesSeats(t *testing.T) {
	for _, votes := range someVotes() {
		for seats := 1; seats <= 10; seats++ {
			h, _ := quota.Hare(votes, seats)
			b, _ := quota.Hagenbach(votes, seats)
			all, e := ratio.Mul(h, ratio.Whole(seats))
			again, e2 := ratio.Mul(b, ratio.Whole(seats+1))
			if e != api.OK || e2 != api.OK || !ratio.Same(all, ratio.Whole(votes)) || !ratio.Same(again, ratio.Whole(votes)) {
				t.Errorf("%d votes, %d seats: Hare %v, Hagenbach-Bischoff %v", votes, seats, h, b)
			}
		}
	}
}

// someFixed returns valid fixed-point numbers: the edges and many others.
func someFixed() []int {
	l := edges()
	r := rand.New(rand.NewSource(4))
	for range 250 {
		l = append(l, some(r, most))
	}
	return l
}

// isExact reports whether the product of two fixed-point numbers is one, however great.
func isExact(a, b int) bool {
	n := new(big.Int).Mul(big.NewInt(int64(a)), big.NewInt(int64(b)))
	return n.Rem(n, big.NewInt(unit)).Sign() == 0
}

func TestP17_4DownAndUp(t *testing.T) {
	exact, between := 0, 0
	for _, a := range someFixed() {
		for _, b := range someFixed() {
			d, u := down(a, b), up(a, b)
			switch {
			case u.e != api.OK:
				if !u.isError(api.ErrGreat) || !d.isError(api.ErrGreat) && (!d.equal(answer{n: most}) || isExact(a, b)) {
					t.Errorf("%d * %d: %v and %v", a, b, d, u)
				}
			case isExact(a, b):
				exact++
				if !d.equal(u) {
					t.Errorf("%d * %d: %v and %v", a, b, d, u)
				}
			default:
				between++
				if d.e != api.OK || u.n != d.n+1 {
					t.Errorf("%d * %d: %v and %v", a, b, d, u)
				}
			}
		}
	}
	if exact < 500 || between < 5000 {
		t.Errorf("%d exact products and %d others", exact, between)
	}
}

func TestP17_4ProductsInAnyOrder(t *testing.T) {
	for _, a := range someFixed() {
		for _, b := range someFixed() {
			if d, turned := down(a, b), down(b, a); !d.equal(turned) {
				t.Errorf("%d * %d: %v and %v", a, b, d, turned)
			}
			if u, turned := up(a, b), up(b, a); !u.equal(turned) {
				t.Errorf("%d * %d: %v and %v", a, b, u, turned)
			}
			if s, d := share(a, b, unit), down(a, b); !s.equal(d) {
				t.Errorf("%d * %d: %v, and as a share %v", a, b, d, s)
			}
		}
	}
}

func TestP17_4UnitChangesNothing(t *testing.T) {
	for _, n := range someFixed() {
		for _, got := range []answer{down(n, api.Unit), down(api.Unit, n), up(n, api.Unit), up(api.Unit, n)} {
			if !got.equal(answer{n: n}) {
				t.Errorf("%d times one: %v", n, got)
			}
		}
	}
}

func TestP17_4ShareUndoesAProduct(t *testing.T) {
	for _, a := range someFixed() {
		for _, b := range someFixed() {
			want := answer{n: a}
			if b == 0 {
				want = answer{e: api.ErrZero}
			}
			for _, got := range []answer{share(a, b, b), share(b, a, b)} {
				if !got.equal(want) {
					t.Errorf("%d * %d / %d: %v", a, b, b, got)
				}
			}
		}
	}
}

func TestP17_4BillionthsUndoesRatio(t *testing.T) {
	test := func(n int) {
		x, e := quota.Ratio(n)
		if got := billionths(x); e != api.OK || !got.equal(answer{n: n}) {
			t.Errorf("%d billionths are %v, error %d, and that is %v", n, x, int(e), got)
		}
	}
	for _, n := range someFixed() {
		test(n)
	}
	for n := range 2000 {
		test(n)
		test(unit - 1000 + n)
		test(most - n)
	}
}
