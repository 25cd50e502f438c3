package digest_test

import (
	"fmt"

	"suffrage/digest"
)

func Example() {
	d, e := digest.Sum([]byte("abc"))
	fmt.Printf("%x %d\n", d, int(e))
	leaf, e := digest.Leaf(nil)
	fmt.Printf("%x %d\n", leaf, int(e))
	fmt.Printf("%x\n", digest.Node(leaf, d))
	for _, n := range []int{0, 55, 56} {
		padded, e := digest.Pad(make([]byte, n))
		fmt.Println(n, len(padded), int(e))
	}
	s, e := digest.Compress([8]uint32{}, make([]byte, 63))
	fmt.Println(s, int(e))
	_, e = digest.Sum(make([]byte, 8193))
	fmt.Println(int(e))
	// Output:
	// ba7816bf8f01cfea414140de5dae2223b00361a396177a9cb410ff61f20015ad 0
	// 6e340b9cffb37a989ca544e6bb780a2c78901d3fb33738768511a30617afa01d 0
	// 66df6b17e0f444bcca0dbe05ce88a33211e9a7b34a766a17fb93a7573b71281c
	// 0 64 0
	// 55 64 0
	// 56 128 0
	// [0 0 0 0 0 0 0 0] 2
	// 4
}
