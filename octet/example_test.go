package octet_test

import (
	"fmt"

	"suffrage/octet"
)

func Example() {
	b, e := octet.Join([][]byte{{5, 6}, {}})
	fmt.Println(b, int(e))
	l, e := octet.Split(b)
	fmt.Println(l, int(e))
	b, e = octet.Put([]byte{7}, 258, 2)
	fmt.Println(b, int(e))
	n, next, e := octet.Take(b, 1, 2)
	fmt.Println(n, next, int(e))
	// Output:
	// [0 2 5 6 0 0] 0
	// [[5 6] []] 0
	// [7 1 2] 0
	// 258 3 0
}
