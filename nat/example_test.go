package nat_test

import (
	"fmt"

	"suffrage/nat"
)

func Example() {
	product, e := nat.Mul(nat.Of(4294967296), nat.Of(4294967295))
	fmt.Println(product, int(e))
	s, e := nat.Text(product)
	fmt.Println(s, int(e))
	q, r, e := nat.Div(nat.Of(100), nat.Of(7))
	fmt.Println(q, r, int(e))
	d, e := nat.Gcd(nat.Of(12), nat.Of(18))
	fmt.Println(d, int(e))
	for _, s := range []string{"18446744069414584320", "007", "-1", ""} {
		n, e := nat.Read(s)
		fmt.Println(n, int(e))
	}
	// Output:
	// [0 4294967295] 0
	// 18446744069414584320 0
	// [14] [2] 0
	// [6] 0
	// [0 4294967295] 0
	// [] 11
	// [] 11
	// [] 11
}
