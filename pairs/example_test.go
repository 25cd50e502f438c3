package pairs_test

import (
	"fmt"

	"suffrage/api"
	"suffrage/pairs"
)

func Example() {
	p := api.Profile{Cands: 3, Kind: api.KindRank, Rows: []api.Row{{Marks: []int{0, 1}, Many: 3}, {Marks: []int{1, 2}, Many: 2}}}
	m, e := pairs.Of(p)
	fmt.Println(m[0][:3], m[1][:3], m[2][:3], int(e))
	wins, e := pairs.Wins(m, 3)
	fmt.Println(wins, int(e))
	fmt.Println(pairs.Margin(m, 0, 1), pairs.Margin(m, 1, 0), pairs.Beats(m, 0, 1))
	twice, e := pairs.Sum(m, m)
	fmt.Println(twice[0][:3], twice[1][:3], twice[2][:3], int(e))
	renamed, e := pairs.Rename(m, []int{2, 0, 1})
	fmt.Println(renamed[0][:3], renamed[1][:3], renamed[2][:3], int(e))
	fmt.Println(pairs.Turn(pairs.Turn(m)) == m, pairs.Right(m, 3), pairs.Right(m, 2))
	// Output:
	// [0 3 3] [2 0 5] [2 0 0] 0
	// [2 1 0] 0
	// 1 -1 true
	// [0 6 6] [4 0 10] [4 0 0] 0
	// [0 5 2] [0 0 2] [3 3 0] 0
	// true true false
}
