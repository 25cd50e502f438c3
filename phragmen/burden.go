package phragmen

import (
	"slices"

	"suffrage/api"
	"suffrage/ratio"
)

// burden is the loads of the ballots of a profile. Those of a count cause no errors: their denominators divide the product of the supports of at most MaxCands candidates, and none of them is greater than MaxCands.
type burden struct {
	rows  []api.Row
	loads []api.Ratio // of each ballot of the row
}

// unburdened returns loads of 0.
func unburdened(rows []api.Row) burden {
	b := burden{rows: rows}
	for range rows {
		b.loads = append(b.loads, ratio.Whole(0))
	}
	return b
}

// cost returns the cost of x, or false if x has no support.
func (b burden) cost(x int) (cost api.Ratio, ok bool, e api.Errno) {
	sum, support := ratio.Whole(1), 0
	for i, row := range b.rows {
		if !slices.Contains(row.Marks, x) {
			continue
		}
		sum, e = plus(sum, row.Many, b.loads[i])
		if e != api.OK {
			return api.Ratio{}, false, e
		}
		support += row.Many
	}
	if support == 0 {
		return api.Ratio{}, false, api.OK
	}
	cost, e = ratio.Div(sum, ratio.Whole(support))
	return cost, e == api.OK, e
}

// plus returns the sum with the load of so many ballots added.
func plus(sum api.Ratio, many int, load api.Ratio) (api.Ratio, api.Errno) {
	product, e := ratio.Mul(ratio.Whole(many), load)
	if e != api.OK {
		return api.Ratio{}, e
	}
	return ratio.Add(sum, product)
}

// bear makes the cost of x the load of each ballot that supports it; of none, whatever the cost, if x has no support.
func (b burden) bear(x int, cost api.Ratio) {
	for i, row := range b.rows {
		if slices.Contains(row.Marks, x) {
			b.loads[i] = ratio.Twin(cost)
		}
	}
}
