package meek_test

import (
	"fmt"

	"suffrage/api"
	"suffrage/meek"
	"suffrage/ratio"
)

func Example() {
	p := api.Profile{Cands: 3, Kind: api.KindRank, Rows: []api.Row{{Marks: []int{0, 1}, Many: 6}, {Marks: []int{1}, Many: 1}, {Marks: []int{2}, Many: 3}}}
	quota, e := meek.Quota(10, 0, 2)
	fmt.Println(quota, int(e))
	keep, e := meek.Keep(api.Unit, 6*api.Unit, quota)
	fmt.Println(keep, int(e))
	parts, rest, e := meek.Parts([]int{0, 1}, []int{keep, api.Unit, api.Unit})
	fmt.Println(parts, rest, int(e))
	o, e := meek.Count(p, 2, []int{0, 1, 2})
	fmt.Println(o.Elected, o.Ties, int(e))
	for _, r := range o.Rounds {
		for _, n := range append(r.Had, r.Lost) {
			s, _ := ratio.Text(n)
			fmt.Print(s, " ")
		}
		fmt.Println(r.Elected, r.Out)
	}
	_, e = meek.Count(p, 4, []int{0, 1, 2})
	fmt.Println(int(e))
	// Output:
	// 3333333334 0
	// 555555556 0
	// [555555556 444444444 0] 0 0
	// [0 1] [] 0
	// 6 1 3 0 [0] []
	// 416666667/125000000 458333333/125000000 3 0 [1] []
	// 2
}
