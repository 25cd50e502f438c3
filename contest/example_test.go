package contest_test

import (
	"fmt"

	"suffrage/api"
	"suffrage/contest"
)

func Example() {
	rule, e := contest.Rule("schulze")
	fmt.Println(rule, int(e))
	c := api.Contest{Name: "mayor", Cands: []string{"ann", "bob"}, Seats: 1, Rule: rule}
	fmt.Println(int(contest.Check(c)))
	at, e := contest.Place(c, "bob")
	fmt.Println(at, int(e))
	b, e := contest.Bytes(c)
	fmt.Printf("%q %d\n", b, int(e))
	d, e := contest.Read(b)
	fmt.Println(d, int(e))
	fmt.Println(contest.Same(c, d))
	kind, e := contest.Kind(api.RuleRunoff)
	fmt.Println(kind == api.KindRank, int(e))
	most, e := contest.Most(api.RuleDHondt, 5)
	fmt.Println(most, int(e))
	c.Seats = 2
	fmt.Println(int(contest.Check(c)))
	// Output:
	// 7 0
	// 0
	// 1 0
	// "\x00\x05mayor\x00\x02\x01\a\x00\x03ann\x00\x03bob" 0
	// {mayor [ann bob] 1 7} 0
	// true
	// true 0
	// 1 0
	// 8
}
