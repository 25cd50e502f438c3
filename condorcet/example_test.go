package condorcet_test

import (
	"fmt"

	"suffrage/api"
	"suffrage/condorcet"
	"suffrage/pairs"
	"suffrage/ratio"
)

func Example() {
	p := api.Profile{Cands: 3, Kind: api.KindRank, Rows: []api.Row{{Marks: []int{0, 1, 2}, Many: 3}, {Marks: []int{1, 2, 0}, Many: 2}, {Marks: []int{2, 0, 1}, Many: 2}}}
	m, _ := pairs.Of(p)
	fmt.Println(condorcet.Winner(m, 3))
	set, e := condorcet.Smith(m, 3)
	fmt.Println(set, int(e))
	for _, count := range []func(api.Profile, int, []int) (api.Outcome, api.Errno){condorcet.Copeland, condorcet.Minimax} {
		o, e := count(p, 1, []int{2, 1, 0})
		fmt.Println(o.Elected, o.Ties, int(e))
		for _, n := range o.Rounds[0].Had {
			s, _ := ratio.Text(n)
			fmt.Println(s)
		}
	}
	_, e = condorcet.Copeland(p, 2, []int{2, 1, 0})
	fmt.Println(int(e))
	// Output:
	// 0 false
	// [0 1 2] 0
	// [2] [{[0 1 2] 2}] 0
	// 1
	// 1
	// 1
	// [0] [] 0
	// 1
	// 3
	// 3
	// 2
}
