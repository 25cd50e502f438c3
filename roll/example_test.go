package roll_test

import (
	"fmt"

	"suffrage/api"
	"suffrage/roll"
)

func Example() {
	l, e := roll.Add(nil, "bob", 1)
	fmt.Println(l, int(e))
	l, e = roll.Add(l, "ann", 1)
	fmt.Println(l, int(e))
	l, e = roll.Issue(l, "bob")
	fmt.Println(l, int(e))
	l, e = roll.Vote(l, "bob")
	fmt.Println(l, int(e))
	bob, e := roll.Find(l, "bob")
	fmt.Println(bob.State == api.VoterVoted, int(e))
	_, e = roll.Issue(l, "bob")
	fmt.Println(e == api.ErrState)
	turnout, e := roll.Count(l, -1)
	fmt.Printf("%+v %d\n", turnout, int(e))
	b, e := roll.Bytes(l)
	fmt.Printf("%q %d\n", b, int(e))
	l, e = roll.Read(b)
	fmt.Println(l, int(e))
	// Output:
	// [{bob 1 1}] 0
	// [{ann 1 1} {bob 1 1}] 0
	// [{ann 1 1} {bob 1 2}] 0
	// [{ann 1 1} {bob 1 3}] 0
	// true 0
	// true
	// {Free:1 Holds:0 Voted:1 Struck:0} 0
	// "\x00\x05\x01\x01ann\x00\x05\x01\x03bob" 0
	// [{ann 1 1} {bob 1 3}] 0
}
