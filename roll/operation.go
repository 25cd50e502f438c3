package roll

import "suffrage/api"

// operation is an operation on a voter: next returns the state after it, or false if it is not allowed in state.
type operation struct {
	next func(state uint8) (uint8, bool)
}

// operationBy returns the operation that leads from each state in the map to the one beside it, and that no other state allows.
func operationBy(states map[uint8]uint8) operation {
	return operation{next: func(state uint8) (uint8, bool) {
		after, ok := states[state]
		return after, ok
	}}
}

// on returns the roll after the operation on the voter with the name, as P24.2 says.
func (o operation) on(l []api.Voter, name string) ([]api.Voter, api.Errno) {
	at, e := place(l, name)
	if e != api.OK {
		return nil, e
	}
	after, ok := o.next(l[at].State)
	if !ok {
		return nil, api.ErrState
	}
	changed := twins(l)
	changed[at].State = after
	return changed, api.OK
}
