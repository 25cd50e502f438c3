package profile

import (
	"slices"
	"sort"

	"suffrage/api"
	"suffrage/ballot"
)

// fold hands one element after the other to step, with what step has made of those before (of none: start), until the last one or the first error.
func fold[E, T any](l []E, start T, step func(made T, element E) (T, api.Errno)) (T, api.Errno) {
	made, e := start, api.OK
	for i := 0; i < len(l) && e == api.OK; i++ {
		made, e = step(made, l[i])
	}
	return made, e
}

// total returns the number of ballots in rows, or some number beyond MaxMany if it is beyond. A count is taken as no more than suffices for that, so that the numbers of any two profiles' rows add up without overflow.
func total(rows []api.Row) int {
	n, _ := fold(rows, 0, func(n int, row api.Row) (int, api.Errno) {
		return n + min(row.Many, api.MaxMany+1), api.OK
	})
	return n
}

// plus returns p with the ballots of rows added, or an error if that is beyond the limits.
func plus(p api.Profile, rows []api.Row) (api.Profile, api.Errno) {
	sum, _ := fold(rows, twinRows(p.Rows), func(sum []api.Row, row api.Row) ([]api.Row, api.Errno) {
		return put(p.Kind, sum, row), api.OK
	})
	// Only what all rows add up to tells which of the limits it exceeds.
	if e := checkLimits(sum); e != api.OK {
		return api.Profile{}, e
	}
	return api.Profile{Cands: p.Cands, Kind: p.Kind, Rows: sum}, api.OK
}

// less returns p with the ballots of rows removed, or ErrNone if p does not contain them.
func less(p api.Profile, rows []api.Row) (api.Profile, api.Errno) {
	rest, e := fold(rows, twinRows(p.Rows), func(rest []api.Row, row api.Row) ([]api.Row, api.Errno) {
		return remove(p.Kind, rest, row)
	})
	if e != api.OK {
		return api.Profile{}, e
	}
	return api.Profile{Cands: p.Cands, Kind: p.Kind, Rows: rest}, api.OK
}

// turn returns the profile of what change makes of each ballot of p.
func turn(p api.Profile, change func(b api.Ballot) api.Ballot) api.Profile {
	rows, _ := fold(p.Rows, nil, func(rows []api.Row, row api.Row) ([]api.Row, api.Errno) {
		changed := change(ballotOf(p.Kind, row))
		return put(p.Kind, rows, api.Row{Marks: changed.Marks, Many: row.Many}), api.OK
	})
	return api.Profile{Cands: p.Cands, Kind: p.Kind, Rows: rows}
}

// put returns rows, which it may overwrite, with the ballots of row added.
func put(kind uint8, rows []api.Row, row api.Row) []api.Row {
	at, found := find(kind, rows, row)
	if found {
		rows[at].Many += row.Many
		return rows
	}
	return slices.Insert(rows, at, twinRow(row))
}

// remove returns rows, which it may overwrite, with the ballots of row removed, or ErrNone if there are fewer.
func remove(kind uint8, rows []api.Row, row api.Row) ([]api.Row, api.Errno) {
	at, found := find(kind, rows, row)
	if !found || rows[at].Many < row.Many {
		return nil, api.ErrNone
	}
	rows[at].Many -= row.Many
	if rows[at].Many == 0 {
		return slices.Delete(rows, at, at+1), api.OK
	}
	return rows, api.OK
}

// find returns the index at which the ballot of row is in rows, or would be in their order, and whether it is there.
func find(kind uint8, rows []api.Row, row api.Row) (int, bool) {
	b := ballotOf(kind, row)
	at := sort.Search(len(rows), func(i int) bool { return !ballot.Less(ballotOf(kind, rows[i]), b) })
	return at, at < len(rows) && ballot.Same(ballotOf(kind, rows[at]), b)
}

func ballotOf(kind uint8, row api.Row) api.Ballot { return api.Ballot{Kind: kind, Marks: row.Marks} }

// twinRows returns rows in memory of their own.
func twinRows(rows []api.Row) []api.Row {
	twin := make([]api.Row, 0, len(rows))
	for _, row := range rows {
		twin = append(twin, twinRow(row))
	}
	return twin
}

func twinRow(row api.Row) api.Row {
	return api.Row{Marks: append([]int(nil), row.Marks...), Many: row.Many}
}
