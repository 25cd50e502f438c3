package contest

import (
	"slices"

	"suffrage/api"
)

const (
	leastByte    = 33  // of a name
	greatestByte = 126 // of a name
)

// isValid reports whether c, which has at most MaxCands candidates, is valid.
func isValid(c api.Contest) bool {
	return areNames(c.Name) &&
		len(c.Cands) > 0 && areNames(c.Cands...) && areDistinct(c.Cands...) &&
		isRule(c.Rule) && 1 <= c.Seats && c.Seats <= mostSeats(c.Rule, len(c.Cands))
}

func areNames(names ...string) bool {
	for _, name := range names {
		if len(name) < 1 || len(name) > api.MaxName || !hasBytesOfNames(name) {
			return false
		}
	}
	return true
}

// hasBytesOfNames goes through bytes, not runes, because that is what the document counts.
func hasBytesOfNames(s string) bool {
	for i := range len(s) {
		if s[i] < leastByte || s[i] > greatestByte {
			return false
		}
	}
	return true
}

func areDistinct(names ...string) bool {
	for i, name := range names {
		if slices.Contains(names[:i], name) {
			return false
		}
	}
	return true
}
