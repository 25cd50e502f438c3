package gregory_test

import (
	"fmt"

	"suffrage/api"
	"suffrage/gregory"
	"suffrage/ratio"
)

func Example() {
	p := api.Profile{Cands: 3, Kind: api.KindRank, Rows: []api.Row{{Marks: []int{0, 1}, Many: 6}, {Marks: []int{1}, Many: 1}, {Marks: []int{2}, Many: 3}}}
	quota, e := gregory.Quota(p, 2)
	fmt.Println(quota, int(e))
	value, e := gregory.Pass(api.Unit, 6*api.Unit, quota*api.Unit)
	fmt.Println(value, int(e))
	o, e := gregory.Count(p, 2, []int{0, 1, 2})
	fmt.Println(o.Elected, o.Ties, int(e))
	for _, r := range o.Rounds {
		for _, n := range append(r.Had, r.Lost) {
			s, _ := ratio.Text(n)
			fmt.Print(s, " ")
		}
		fmt.Println(r.Elected, r.Out)
	}
	_, e = gregory.Count(p, 4, []int{0, 1, 2})
	fmt.Println(int(e))
	// Output:
	// 4 0
	// 333333333 0
	// [0 2] [] 0
	// 6 1 3 0 [0] []
	// 4 1499999999/500000000 3 1/500000000 [] [1]
	// 4 0 3 3 [2] []
	// 2
}
