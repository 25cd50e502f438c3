package profile_test

import (
	"fmt"

	"suffrage/api"
	"suffrage/profile"
)

func Example() {
	p, e := profile.New(2, api.KindRank)
	p, e = profile.Add(p, api.Ballot{Kind: api.KindRank, Marks: []int{0, 1}}, 3)
	p, e = profile.Add(p, api.Ballot{Kind: api.KindRank, Marks: []int{1}}, 2)
	p, e = profile.Add(p, api.Ballot{Kind: api.KindRank, Marks: []int{0, 1}}, 1)
	fmt.Println(p.Rows, int(e))
	many, e := profile.Many(p)
	fmt.Println(many, int(e))
	q, e := profile.Keep(p, []bool{false, true})
	fmt.Println(q.Rows, int(e))
	q, e = profile.Rename(p, []int{1, 0})
	fmt.Println(q.Rows, int(e))
	sum, e := profile.Sum(p, q)
	fmt.Println(sum.Rows, int(e))
	rest, e := profile.Minus(sum, q)
	fmt.Println(profile.Same(rest, p), int(e))
	_, e = profile.Take(p, api.Ballot{Kind: api.KindRank, Marks: []int{1}}, 3)
	fmt.Println(int(e))
	// Output:
	// [{[0 1] 4} {[1] 2}] 0
	// 6 0
	// [{[1] 6}] 0
	// [{[0] 2} {[1 0] 4}] 0
	// [{[0] 2} {[0 1] 4} {[1] 2} {[1 0] 4}] 0
	// true 0
	// 6
}
