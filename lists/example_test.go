package lists_test

import (
	"fmt"

	"suffrage/api"
	"suffrage/lists"
	"suffrage/ratio"
)

func Example() {
	p := api.Profile{Cands: 3, Kind: api.KindMark, Rows: []api.Row{{Marks: []int{0}, Many: 53}, {Marks: []int{0, 1}, Many: 2}, {Marks: []int{1}, Many: 24}, {Marks: []int{2}, Many: 23}}}
	lot := []int{0, 1, 2}
	o, e := lists.DHondt(p, 7, lot)
	fmt.Println(o.Elected, o.Ties, int(e))
	for _, n := range append(o.Rounds[0].Had, o.Rounds[0].Lost) {
		s, _ := ratio.Text(n)
		fmt.Print(s, " ")
	}
	fmt.Println(o.Rounds[0].Elected, o.Rounds[0].Out)
	o, e = lists.Sainte(p, 7, lot)
	fmt.Println(o.Elected, o.Ties, int(e))
	o, e = lists.Hare(p, 7, lot)
	fmt.Println(o.Elected, o.Ties, int(e))
	_, e = lists.Hare(p, 11, lot)
	fmt.Println(int(e))
	// Output:
	// [0 0 1 2 0 0 1] [] 0
	// 53 24 23 2 [0 0 1 2 0 0 1] []
	// [0 1 2 0 0 1 2] [] 0
	// [0 0 0 1 2 0 1] [] 0
	// 2
}
