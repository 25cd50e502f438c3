package ratio_test

import (
	"fmt"

	"suffrage/ratio"
)

func Example() {
	half, e := ratio.Of(1, 2)
	fmt.Println(half, int(e))
	third, e := ratio.Of(-2, -6)
	fmt.Println(third, int(e))
	sum, e := ratio.Add(half, third)
	fmt.Println(sum, int(e))
	s, e := ratio.Text(sum)
	fmt.Println(s, int(e))
	x, e := ratio.Read("-7/2")
	fmt.Println(x, int(e))
	n, e := ratio.Floor(x)
	fmt.Println(n, int(e))
	order, e := ratio.Cmp(x, ratio.Whole(-3))
	fmt.Println(order, int(e))
	for _, s := range []string{"2/4", "3/1", "-0", "1/0"} {
		x, e := ratio.Read(s)
		fmt.Println(x, int(e))
	}
	// Output:
	// {false [1] [2]} 0
	// {false [1] [3]} 0
	// {false [5] [6]} 0
	// 5/6 0
	// {true [7] [2]} 0
	// -4 0
	// -1 0
	// {false [] []} 11
	// {false [] []} 11
	// {false [] []} 11
	// {false [] []} 11
}
