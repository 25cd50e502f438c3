package sheet

import "suffrage/api"

const darkest = 100 // the greatest value of a box

// state is what a box counts as.
type state int

const (
	empty state = iota
	doubtful
	marked
)

func isTooDark(value uint8) bool { return value > darkest }

func isPolicy(p api.Policy) bool {
	return 1 <= p.Low && p.Low <= p.High && p.High <= darkest && 0 <= p.Skips && p.Skips <= api.MaxCands
}

// statesOf returns the states of the sheet's boxes before any decision.
func statesOf(p api.Policy, s api.Sheet) []state {
	states := make([]state, len(s.Boxes))
	for i, value := range s.Boxes {
		switch {
		case value >= p.High:
			states[i] = marked
		case value >= p.Low:
			states[i] = doubtful
		}
	}
	return states
}

// decide applies decisions to states, and reports whether all of them concern doubtful boxes. A box is no longer doubtful after a decision, so that a second one is not for it.
func decide(states []state, l []api.Decision) bool {
	for _, d := range l {
		if d.Box < 0 || d.Box >= len(states) || states[d.Box] != doubtful {
			return false
		}
		states[d.Box] = empty
		if d.Marked {
			states[d.Box] = marked
		}
	}
	return true
}
