package draw_test

import (
	"fmt"

	"suffrage/draw"
)

func Example() {
	seed, e := draw.Mix([][]byte{[]byte("a public"), []byte("ceremony")})
	fmt.Printf("%x %d\n", seed[:4], int(e))
	n, e := draw.Number(seed, 0, 6)
	fmt.Println(n, int(e))
	l, e := draw.Lot(seed, 8)
	fmt.Println(l, int(e))
	s, e := draw.Sample(seed, 100, 3, 1000)
	fmt.Println(s, int(e))
	n, e = draw.Number(seed, 0, 0)
	fmt.Println(n, int(e))
	// Output:
	// 8623eadb 0
	// 2 0
	// [0 4 2 6 1 3 7 5] 0
	// [856 413 379] 0
	// 0 2
}
