package coombs_test

import (
	"fmt"

	"suffrage/api"
	"suffrage/coombs"
	"suffrage/ratio"
)

func Example() {
	p := api.Profile{Cands: 3, Kind: api.KindRank, Rows: []api.Row{{Marks: []int{0, 1, 2}, Many: 4}, {Marks: []int{1, 0, 2}, Many: 3}, {Marks: []int{2, 1, 0}, Many: 2}}}
	against, e := coombs.Lasts(p, []bool{true, true, true})
	fmt.Println(against, int(e))
	o, e := coombs.Count(p, 1, []int{0, 1, 2})
	fmt.Println(o.Elected, o.Ties, int(e))
	for _, r := range o.Rounds {
		for _, n := range append(r.Had, r.Lost) {
			s, _ := ratio.Text(n)
			fmt.Print(s, " ")
		}
		fmt.Println(r.Elected, r.Out)
	}
	o, e = coombs.Count(api.Profile{Cands: 2, Kind: api.KindRank}, 1, []int{1, 0})
	fmt.Println(o.Elected, o.Ties, int(e))
	_, e = coombs.Count(p, 2, []int{0, 1, 2})
	fmt.Println(int(e))
	// Output:
	// [2 0 7] 0
	// [1] [] 0
	// 4 3 2 0 [] [2]
	// 4 5 0 0 [1] []
	// [1] [{[0 1] 0}] 0
	// 2
}
