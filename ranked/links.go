package ranked

import (
	"cmp"
	"slices"

	"suffrage/api"
	"suffrage/pairs"
)

// order returns the links of m, which is valid, in order.
func order(m api.Pairs, lot []int) []api.Link {
	var links []api.Link
	for _, x := range lot {
		for _, y := range lot {
			if margin := pairs.Margin(m, x, y); margin > 0 {
				links = append(links, api.Link{From: x, To: y, Margin: margin, For: m[x][y]})
			}
		}
	}
	// They are in the order of the lot, and stay so where both numbers are equal.
	slices.SortStableFunc(links, func(a, b api.Link) int {
		return cmp.Or(cmp.Compare(b.Margin, a.Margin), cmp.Compare(b.For, a.For))
	})
	return links
}

// lock returns the locked ones of the links, which are in order.
func lock(links []api.Link) []api.Link {
	var locked []api.Link
	for _, link := range links {
		if !Leads(locked, link.To, link.From) {
			locked = append(locked, link)
		}
	}
	return locked
}

// bare returns the links without their numbers, those from one candidate in a row.
func bare(l []api.Link) []api.Link {
	links := make([]api.Link, len(l))
	for i, link := range l {
		links[i] = api.Link{From: link.From, To: link.To}
	}
	slices.SortFunc(links, func(a, b api.Link) int { return cmp.Compare(a.From, b.From) })
	return links
}

// deepest is how many links a search follows before it puts off the rest, so that a path of millions of links does not exhaust the stack.
const deepest = 1000

// leads reports whether the links, which are bare, contain a path of at least one link from x to y.
func leads(links []api.Link, x, y int) bool {
	been := make([]bool, len(links)) // whether the search has been where a link starts: of the links from there, the first one tells
	putOff := []int{x}
	var search func(from, depth int) bool
	search = func(from, depth int) bool {
		at, ok := slices.BinarySearchFunc(links, from, func(link api.Link, from int) int { return cmp.Compare(link.From, from) })
		if !ok || been[at] {
			return false
		}
		if depth == deepest {
			putOff = append(putOff, from)
			return false
		}
		been[at] = true
		last := api.Link{From: from, To: y}
		for ; at < len(links) && links[at].From == from; at++ {
			if links[at] == last || search(links[at].To, depth+1) {
				return true
			}
		}
		return false
	}
	for i := 0; i < len(putOff); i++ {
		if search(putOff[i], 0) {
			return true
		}
	}
	return false
}
