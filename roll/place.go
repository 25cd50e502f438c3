package roll

import (
	"cmp"
	"strings"

	"suffrage/api"
)

// place returns the index of the voter with the name. It returns the error of Check, otherwise ErrNone if there is none.
func place(l []api.Voter, name string) (int, api.Errno) {
	if e := Check(l); e != api.OK {
		return 0, e
	}
	at, found := position(l, name, nameOf)
	if !found {
		return 0, api.ErrNone
	}
	return at, api.OK
}

// position returns at which index of l, whose keys are in increasing order, an element with the key belongs, and whether one is there.
func position[T any, K cmp.Ordered](l []T, key K, keyOf func(x T) K) (at int, found bool) {
	for at < len(l) && keyOf(l[at]) < key {
		at++
	}
	return at, at < len(l) && keyOf(l[at]) == key
}

func nameOf(v api.Voter) string { return v.Name }

// twin returns v with a name of its own, as names are memory of a roll, too.
func twin(v api.Voter) api.Voter {
	return api.Voter{Name: strings.Clone(v.Name), Precinct: v.Precinct, State: v.State}
}

func twins(l []api.Voter) []api.Voter {
	copies := make([]api.Voter, len(l))
	for i, v := range l {
		copies[i] = twin(v)
	}
	return copies
}
