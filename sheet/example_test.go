package sheet_test

import (
	"fmt"

	"suffrage/api"
	"suffrage/sheet"
)

func Example() {
	c := api.Contest{Name: "mayor", Cands: []string{"ann", "bob", "cy"}, Seats: 1, Rule: api.RuleRunoff}
	p := api.Policy{Low: 20, High: 60, Skips: 0}
	s := api.Sheet{Boxes: []uint8{0, 100, 0, 90, 0, 0, 0, 0, 30}}
	n, e := sheet.Boxes(c)
	fmt.Println(n, int(e))
	fmt.Println(int(sheet.Check(c, s)))
	r, e := sheet.Read(c, p, s, nil)
	fmt.Printf("%+v %d\n", r, int(e))
	r, e = sheet.Read(c, p, s, []api.Decision{{Box: 8, Marked: true}})
	fmt.Printf("%+v %d\n", r, int(e))
	filled, e := sheet.Fill(c, r.Ballot)
	fmt.Println(filled.Boxes, int(e))
	// Output:
	// 9 0
	// 0
	// {Ballot:{Kind:1 Marks:[1 0]} Over:0 Doubts:[8]} 0
	// {Ballot:{Kind:1 Marks:[1 0 2]} Over:0 Doubts:[]} 0
	// [0 100 0 100 0 0 0 0 100] 0
}
