package ranked

import (
	"suffrage/api"
	"suffrage/rule"
)

// outcome returns the outcome in which one of those is elected to whom no locked link leads.
func outcome(locked []api.Link, lot []int) api.Outcome {
	had := make([]int, len(lot))
	defeated := make([]bool, len(lot))
	for _, link := range locked {
		had[link.From]++
		defeated[link.To] = true
	}
	var among []int
	for c := range defeated {
		if !defeated[c] {
			among = append(among, c)
		}
	}
	return rule.Elect(rule.Round(had, 0), among, lot)
}
