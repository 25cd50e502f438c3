package gregory

// status is what a candidate is at some time of a count.
type status interface {
	// takes reports whether rows count for the candidate.
	takes() bool
	// has returns what the candidate has, if the rows that count for it are worth this much.
	has(rows int) int
}

// hopeful is the status of a candidate that is neither elected nor eliminated.
type hopeful struct{}

func (hopeful) takes() bool { return true }

func (hopeful) has(rows int) int { return rows }

// decided is the status of a candidate that is elected or eliminated: it has from then on what it keeps, the quota or nothing.
type decided struct{ keeps int }

func (decided) takes() bool { return false }

func (d decided) has(int) int { return d.keeps }
