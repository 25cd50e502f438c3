package count_test

import (
	"fmt"

	"suffrage/api"
	"suffrage/count"
	"suffrage/ratio"
)

func Example() {
	tell := func(o api.Outcome) {
		fmt.Print(o.Elected, " ", o.Ties)
		for _, r := range o.Rounds {
			for _, n := range append(r.Had, r.Lost) {
				s, _ := ratio.Text(n)
				fmt.Print(" ", s)
			}
			fmt.Print(" ", r.Elected, " ", r.Out)
		}
		fmt.Println()
	}
	p := api.Profile{Cands: 2, Kind: api.KindRank, Rows: []api.Row{{Marks: []int{0, 1}, Many: 3}, {Marks: []int{1, 0}, Many: 2}}}
	c := api.Contest{Name: "mayor", Cands: []string{"ann", "bob"}, Seats: 1}
	var o api.Outcome
	for c.Rule = api.RuleCopeland; c.Rule <= api.RuleCoombs; c.Rule++ {
		var e api.Errno
		o, e = count.Run(c, p, []int{0, 1})
		fmt.Print(c.Rule, " ", int(e), " ")
		tell(o)
	}
	renamed, e := count.Rename(o, []int{1, 0})
	fmt.Print(int(e), " ")
	tell(renamed)
	seats, e := count.Seats(renamed, 2)
	fmt.Println(seats, int(e), count.Same(o, renamed), count.Same(o, count.Twin(o)))
	_, e = count.Rename(o, []int{1, 1})
	fmt.Println(int(e))
	c.Rule = api.RuleApproval
	_, e = count.Run(c, p, []int{0, 1})
	fmt.Println(int(e))
	// Output:
	// 5 0 [0] [] 1 0 0 [0] []
	// 6 0 [0] [] 0 1 0 [0] []
	// 7 0 [0] [] 1 0 0 [0] []
	// 8 0 [0] [] 1 0 0 [0] []
	// 9 0 [0] [] 3 2 0 [0] []
	// 10 0 [0] [] 3 2 0 [0] []
	// 0 [1] [] 2 3 0 [1] []
	// [0 1] 0 false true
	// 2
	// 270
}
