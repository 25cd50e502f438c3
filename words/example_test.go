package words_test

import (
	"fmt"

	"suffrage/words"
)

func Example() {
	lines, e := words.Lines("a b\n\n")
	fmt.Printf("%q %d\n", lines, int(e))
	l, e := words.Words("vote -12 x")
	fmt.Printf("%q %d\n", l, int(e))
	n, e := words.Number(l[1])
	fmt.Printf("%d %d %q\n", n, int(e), words.Show(n))
	_, e = words.Number("07")
	fmt.Println(int(e))
	table, e := words.Table([][]string{{"a", "bbb", "c"}, {"dd", "e"}})
	fmt.Printf("%d\n%s", int(e), table)
	// Output:
	// ["a b" ""] 0
	// ["vote" "-12" "x"] 0
	// -12 0 "-12"
	// 11
	// 0
	// a   bbb  c
	// dd  e
}
