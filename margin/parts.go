package margin

import (
	"iter"
	"slices"

	"suffrage/api"
	"suffrage/ratio"
)

// rivals yields each of l with each other one of m.
func rivals(l, m []int) iter.Seq2[int, int] {
	return func(yield func(x, y int) bool) {
		for _, x := range l {
			for _, y := range m {
				if x != y && !yield(x, y) {
					return
				}
			}
		}
	}
}

// upTo returns the numbers below n.
func upTo(n int) []int {
	var l []int
	for i := range n {
		l = append(l, i)
	}
	return l
}

// without returns those of l that are not in m.
func without(l, m []int) []int {
	return slices.DeleteFunc(slices.Clone(l), func(c int) bool { return slices.Contains(m, c) })
}

// before returns 1 if x comes before y in the lot, and otherwise 0.
func before(lot []int, x, y int) int { return oneIf(slices.Index(lot, x) < slices.Index(lot, y)) }

func oneIf(b bool) int {
	if b {
		return 1
	}
	return 0
}

// half returns half of n, which is at least 0, rounded up.
func half(n int) int { return (n + 1) / 2 }

// whole returns a number of points or ballots.
func whole(x api.Ratio) int {
	n, _ := ratio.Floor(x) // no error, as an outcome has such as fit
	return n
}

func wholes(l []api.Ratio) []int {
	var numbers []int
	for _, x := range l {
		numbers = append(numbers, whole(x))
	}
	return numbers
}
