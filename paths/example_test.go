package paths_test

import (
	"fmt"

	"suffrage/api"
	"suffrage/pairs"
	"suffrage/paths"
	"suffrage/ratio"
)

func Example() {
	p := api.Profile{Cands: 3, Kind: api.KindRank, Rows: []api.Row{{Marks: []int{0, 1, 2}, Many: 3}, {Marks: []int{1, 2, 0}, Many: 2}, {Marks: []int{2, 0, 1}, Many: 2}}}
	m, _ := pairs.Of(p)
	fmt.Println(paths.Strength(m, 0, 1, 2), paths.Strength(m, 0, 2))
	s, e := paths.Strengths(m, 3)
	fmt.Println(s[0][:3], s[1][:3], s[2][:3], int(e))
	o, e := paths.Count(p, 1, []int{2, 1, 0})
	fmt.Println(o.Elected, o.Ties, int(e))
	for _, n := range o.Rounds[0].Had {
		s, _ := ratio.Text(n)
		fmt.Println(s)
	}
	_, e = paths.Count(p, 2, []int{2, 1, 0})
	fmt.Println(int(e))
	// Output:
	// 5 0
	// [0 5 5] [4 0 5] [4 4 0] 0
	// [0] [] 0
	// 2
	// 1
	// 0
	// 2
}
