package margin_test

import (
	"fmt"

	"suffrage/api"
	"suffrage/margin"
)

func Example() {
	of := func(c api.Contest, p api.Profile, lot ...int) {
		n, exact, e := margin.Of(c, p, lot)
		fmt.Println(n, exact, int(e))
	}
	mayor := api.Contest{Name: "mayor", Cands: []string{"ann", "bob"}, Seats: 1, Rule: api.RulePlurality}
	p := api.Profile{Cands: 2, Kind: api.KindMark, Rows: []api.Row{{Marks: []int{0}, Many: 5}, {Marks: []int{1}, Many: 3}}}
	of(mayor, p, 0, 1)
	of(mayor, p, 1, 0)
	gain, e := margin.Gain(api.RulePlurality, 2, []int{0}, 0, 1)
	fmt.Println(gain, int(e))
	n, ok, e := margin.Least([]int{2, 0}, []int{5, 3}, 3)
	fmt.Println(n, ok, int(e))

	council := api.Contest{Name: "council", Cands: []string{"red", "blue", "green"}, Seats: 7, Rule: api.RuleDHondt}
	q := api.Profile{Cands: 3, Kind: api.KindMark, Rows: []api.Row{{Marks: []int{0}, Many: 53}, {Marks: []int{1}, Many: 24}, {Marks: []int{2}, Many: 23}}}
	of(council, q, 0, 1, 2)
	council.Rule = api.RuleHare
	of(council, q, 0, 1, 2)

	mayor.Seats = 2
	of(mayor, p, 0, 1)
	_, e = margin.Gain(api.RulePlurality, 2, []int{0}, 0, 0)
	fmt.Println(int(e))
	// Output:
	// 2 true 0
	// 1 true 0
	// 2 0
	// 2 true 0
	// 1 true 0
	// 1 false 0
	// 0 false 6
	// 2
}
