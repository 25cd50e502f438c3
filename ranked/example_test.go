package ranked_test

import (
	"fmt"

	"suffrage/api"
	"suffrage/pairs"
	"suffrage/ranked"
	"suffrage/ratio"
)

func Example() {
	p := api.Profile{Cands: 3, Kind: api.KindRank, Rows: []api.Row{{Marks: []int{0, 1, 2}, Many: 3}, {Marks: []int{1, 2, 0}, Many: 2}, {Marks: []int{2, 0, 1}, Many: 2}}}
	lot := []int{2, 1, 0}
	m, _ := pairs.Of(p)
	links, e := ranked.Order(m, 3, lot)
	for _, link := range links {
		fmt.Println(link.From, "to", link.To, link.Margin, link.For)
	}
	fmt.Println(int(e))
	locked, e := ranked.Lock(m, 3, lot)
	fmt.Println(len(locked), locked[0] == links[0], locked[1] == links[1], int(e))
	fmt.Println(ranked.Leads(locked, 0, 2), ranked.Leads(locked, 2, 0), ranked.Leads(links, 2, 2))
	o, e := ranked.Count(p, 1, lot)
	fmt.Println(o.Elected, o.Ties, int(e))
	for _, n := range o.Rounds[0].Had {
		s, _ := ratio.Text(n)
		fmt.Println(s)
	}
	_, e = ranked.Count(p, 2, lot)
	fmt.Println(int(e))
	// Output:
	// 1 to 2 3 5
	// 0 to 1 3 5
	// 2 to 0 1 4
	// 0
	// 2 true true 0
	// true false true
	// [0] [] 0
	// 1
	// 1
	// 0
	// 2
}
