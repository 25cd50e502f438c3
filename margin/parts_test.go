package margin

import (
	"slices"
	"testing"
)

func TestRivals(t *testing.T) {
	var all [][2]int
	for x, y := range rivals([]int{2, 0, 2}, []int{0, 1, 2}) {
		all = append(all, [2]int{x, y})
	}
	if !slices.Equal(all, [][2]int{{2, 0}, {2, 1}, {0, 1}, {0, 2}, {2, 0}, {2, 1}}) {
		t.Errorf("the pairs are %v", all)
	}
	for x, y := range rivals([]int{3, 3}, []int{3}) {
		t.Errorf("%d and %d are a pair", x, y)
	}
}

// Whoever asks for no more pairs gets none.
func TestRivalsOfAFewPairs(t *testing.T) {
	for most := range 6 {
		n := 0
		for range rivals([]int{0, 1, 2}, []int{0, 1, 2}) {
			if n == most {
				break
			}
			n++
		}
		if n != most {
			t.Errorf("there are %d pairs, of %d", n, most)
		}
	}
}
