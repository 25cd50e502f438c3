package single_test

import (
	"fmt"

	"suffrage/api"
	"suffrage/ratio"
	"suffrage/single"
)

func Example() {
	p := api.Profile{Cands: 2, Kind: api.KindMark, Rows: []api.Row{{Marks: []int{0}, Many: 3}, {Marks: []int{0, 1}, Many: 1}, {Marks: []int{1}, Many: 3}}}
	o, e := single.Plurality(p, 1, []int{1, 0})
	fmt.Println(o.Elected, o.Ties, int(e))
	for _, n := range append(o.Rounds[0].Had, o.Rounds[0].Lost) {
		s, _ := ratio.Text(n)
		fmt.Println(s)
	}
	o, e = single.Approval(p, 2, []int{1, 0})
	fmt.Println(o.Elected, o.Ties, int(e))
	_, e = single.Borda(p, 1, []int{1, 0})
	fmt.Println(int(e))
	_, e = single.Plurality(p, 3, []int{1, 0})
	fmt.Println(int(e))
	// Output:
	// [1] [{[0 1] 1}] 0
	// 3
	// 3
	// 1
	// [1 0] [{[0 1] 1}] 0
	// 8
	// 2
}
