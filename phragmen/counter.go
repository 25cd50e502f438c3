package phragmen

import (
	"slices"

	"suffrage/api"
	"suffrage/profile"
	"suffrage/ratio"
	"suffrage/rule"
)

// counter returns a function that counts the next round of p, which is valid, whenever it is called. The state is that before the first round.
func counter(p api.Profile, state *rule.Rounds) (next func()) {
	b := unburdened(p.Rows)
	many, _ := profile.Many(p)
	marked, _ := profile.Marked(p)
	return func() {
		left := state.Candidates()
		costs := b.costs(left)
		among := cheapest(costs)
		if len(among) == 0 { // as nobody has support
			among = left
		}
		elected := state.Elect(api.Round{Had: numbers(costs, p.Cands), Lost: ratio.Whole(many - marked)}, among)
		b.bear(elected, costs[elected])
	}
}

// costs returns the cost of each of the candidates that has support. The loads are those of a count.
func (b burden) costs(cands []int) map[int]api.Ratio {
	costs := map[int]api.Ratio{}
	for _, c := range cands {
		if cost, ok, _ := b.cost(c); ok {
			costs[c] = cost
		}
	}
	return costs
}

// cheapest returns the candidates with the least cost, in ascending order; none if there are no costs.
func cheapest(costs map[int]api.Ratio) []int {
	var least []int
	for c, cost := range costs {
		if len(least) == 0 {
			least = []int{c}
			continue
		}
		switch order, _ := ratio.Cmp(cost, costs[least[0]]); order {
		case -1:
			least = []int{c}
		case 0:
			least = append(least, c)
		}
	}
	slices.Sort(least)
	return least
}

// numbers returns the cost of each of so many candidates, and 0 where there is none.
func numbers(costs map[int]api.Ratio, cands int) []api.Ratio {
	var had []api.Ratio
	for c := range cands {
		cost, ok := costs[c]
		if !ok {
			cost = ratio.Whole(0)
		}
		had = append(had, cost)
	}
	return had
}
