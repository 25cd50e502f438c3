package phragmen_test

import (
	"fmt"

	"suffrage/api"
	"suffrage/phragmen"
	"suffrage/ratio"
)

func Example() {
	tell := func(l ...api.Ratio) {
		for _, n := range l {
			s, _ := ratio.Text(n)
			fmt.Print(s, " ")
		}
	}
	p := api.Profile{Cands: 3, Kind: api.KindMark, Rows: []api.Row{{Marks: []int{0}, Many: 2}, {Marks: []int{0, 1}, Many: 3}, {Marks: []int{2}, Many: 4}}}
	o, e := phragmen.Count(p, 2, []int{0, 1, 2})
	fmt.Println(o.Elected, o.Ties, int(e))
	for _, r := range o.Rounds {
		tell(append(r.Had, r.Lost)...)
		fmt.Println(r.Elected, r.Out)
	}
	loads, e := phragmen.Loads(p, []int{0})
	tell(loads...)
	fmt.Println(int(e))
	cost, ok, e := phragmen.Cost(p, loads, 1)
	tell(cost)
	fmt.Println(ok, int(e))
	_, e = phragmen.Loads(p, []int{0, 0})
	fmt.Println(int(e))
	_, ok, e = phragmen.Cost(p, loads[:2], 1)
	fmt.Println(ok, int(e))
	// Output:
	// [0 2] [] 0
	// 1/5 1/3 1/4 0 [0] []
	// 0 8/15 1/4 0 [2] []
	// 1/5 1/5 0 0
	// 8/15 true 0
	// 2
	// false 2
}
