package paths

import (
	"suffrage/api"
	"suffrage/pairs"
)

// link returns the strength of the link from x to y, or 0 if there is none.
func link(m api.Pairs, x, y int) int {
	if !pairs.Beats(m, x, y) {
		return 0
	}
	return m[x][y]
}

// strengths returns the strengths from each candidate to each other one in m, which is valid.
func strengths(m api.Pairs) api.Pairs {
	var before api.Pairs
	now := links(m)
	for now != before {
		before = now
		now = joined(before)
	}
	return now
}

// links returns the strengths of all links.
func links(m api.Pairs) api.Pairs {
	var l api.Pairs
	for x := range l {
		for y := range l {
			l[x][y] = link(m, x, y)
		}
	}
	return l
}

// joined returns the strengths that there are if two paths in a row, of which s has the strengths, are a path as well.
func joined(s api.Pairs) api.Pairs {
	longer := s
	for x := range s {
		for y := range s {
			if x == y {
				continue // a path that comes back to its start does not count
			}
			for z := range s {
				longer[x][y] = max(longer[x][y], min(s[x][z], s[z][y]))
			}
		}
	}
	return longer
}
