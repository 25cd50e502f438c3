package ballot_test

import (
	"fmt"

	"suffrage/ballot"
)

func Example() {
	b, e := ballot.Read("rank 2 0 1")
	fmt.Println(b, int(e))
	fmt.Println(int(ballot.Check(b, 3)), int(ballot.Check(b, 2)))
	favorite, ok := ballot.First(b)
	fmt.Println(favorite, ok)
	fmt.Println(ballot.Prefers(b, 0, 1), ballot.Prefers(b, 1, 0))
	kept := ballot.Keep(b, []bool{true, true, false})
	favorite, ok = ballot.First(kept)
	fmt.Println(kept, favorite, ok)
	s, e := ballot.Text(kept)
	fmt.Println(s, int(e))
	renamed, e := ballot.Rename(b, []int{1, 2, 0})
	fmt.Println(renamed, int(e))
	fmt.Println(ballot.Less(renamed, b), ballot.Same(renamed, b))
	_, e = ballot.Read("mark 2 0")
	fmt.Println(int(e))
	// Output:
	// {1 [2 0 1]} 0
	// 0 8
	// 2 true
	// true false
	// {1 [0 1]} 0 true
	// rank 0 1 0
	// {1 [0 1 2]} 0
	// true false
	// 11
}
