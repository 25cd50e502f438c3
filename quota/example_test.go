package quota_test

import (
	"fmt"

	"suffrage/api"
	"suffrage/quota"
	"suffrage/ratio"
)

func Example() {
	droop, e := quota.Droop(100, 3)
	fmt.Println(droop, int(e))
	hare, e := quota.Hare(100, 3)
	fmt.Println(hare, int(e))
	hagenbach, e := quota.Hagenbach(100, 3)
	fmt.Println(hagenbach, int(e))
	n, e := quota.Down(1_500_000_000, 1)
	fmt.Println(n, int(e))
	n, e = quota.Up(1_500_000_000, 1)
	fmt.Println(n, int(e))
	n, e = quota.Share(2*api.Unit, api.Unit, 3*api.Unit)
	fmt.Println(n, int(e))
	x, e := quota.Ratio(n)
	s, _ := ratio.Text(x)
	fmt.Println(s, int(e))
	third, _ := ratio.Of(2, 3)
	n, e = quota.Billionths(third)
	fmt.Println(n, int(e))
	n, e = quota.Share(1, 1, 0)
	fmt.Println(n, int(e))
	// Output:
	// 26 0
	// {false [100] [3]} 0
	// {false [25] [1]} 0
	// 1 0
	// 2 0
	// 666666666 0
	// 333333333/500000000 0
	// 666666666 0
	// 0 40
}
