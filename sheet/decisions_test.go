package sheet_test

import (
	"math/rand"
	"slices"
	"testing"

	"suffrage/api"
	"suffrage/sheet"
)

// P25.2: decisions and doubts

func marked(box int) api.Decision { return api.Decision{Box: box, Marked: true} }

func empty(box int) api.Decision { return api.Decision{Box: box} }

func TestP25_2TheExample(t *testing.T) {
	c, p, s := of(9, 3), policy(0), api.Sheet{Boxes: []uint8{0, 100, 0, 90, 0, 0, 0, 0, 30}}
	checkRead(t, c, p, s, nil, api.Reading{Ballot: api.Ballot{Kind: 1, Marks: []int{1, 0}}, Doubts: []int{8}}, api.OK)
	checkRead(t, c, p, s, []api.Decision{marked(8)}, api.Reading{Ballot: api.Ballot{Kind: 1, Marks: []int{1, 0, 2}}}, api.OK)
	checkRead(t, c, p, s, []api.Decision{empty(8)}, api.Reading{Ballot: api.Ballot{Kind: 1, Marks: []int{1, 0}}}, api.OK)
}

// Two sheets, one of them with a doubtful mark, and a decision about it: the third example of the whole.
func TestP25_2TwoSheets(t *testing.T) {
	checkDrawn(t, 2, 0, "x . x", []int{0, 2}, 0)
	checkDrawn(t, 2, 0, "x ? .", []int{0}, 0, 1)
	checkDecided(t, 2, 0, "x ? .", []api.Decision{marked(1)}, []int{0, 1}, 0)
	checkDecided(t, 2, 0, "x ? .", []api.Decision{empty(1)}, []int{0}, 0)
}

// orders returns l in all orders.
func orders(l []api.Decision) [][]api.Decision {
	if len(l) == 0 {
		return [][]api.Decision{nil}
	}
	var all [][]api.Decision
	for i := range l {
		for _, rest := range orders(slices.Delete(slices.Clone(l), i, i+1)) {
			all = append(all, append([]api.Decision{l[i]}, rest...))
		}
	}
	return all
}

// None, some and all of four doubtful boxes are decided, as marked or as empty, in all orders.
func TestP25_2AllDecisionsInAllOrders(t *testing.T) {
	for words := range 3 * 3 * 3 * 3 {
		var l []api.Decision
		var marks, doubts []int
		for box := range 4 {
			switch words % 3 {
			case 0:
				doubts = append(doubts, box)
			case 1:
				l = append(l, empty(box))
			case 2:
				l, marks = append(l, marked(box)), append(marks, box)
			}
			words /= 3
		}
		for _, order := range orders(l) {
			checkDecided(t, 2, 0, "? ? ? ?", order, marks, 0, doubts...)
		}
	}
}

// The same for the boxes of a ranking and of scores, in some orders.
func TestP25_2DecisionsInManyOrders(t *testing.T) {
	random := rand.New(rand.NewSource(2501))
	for range 300 {
		c := of(uint8(1+random.Intn(16)), 1+random.Intn(10))
		p := api.Policy{Low: 20, High: 60, Skips: random.Intn(4)}
		s := randomSheet(random, c, p)
		l := randomDecisions(random, p, s)
		want, wantE := modelRead(c, p, s, l)
		if wantE != api.OK {
			t.Errorf("the model refuses %s with %d", showDecisions(l), int(wantE))
		}
		for range 10 {
			random.Shuffle(len(l), func(i, j int) { l[i], l[j] = l[j], l[i] })
			checkRead(t, c, p, s, l, want, api.OK)
		}
	}
}

// A doubtful box without a decision counts as empty: it makes no overvote, and a rank of such boxes is skipped.
func TestP25_2DoubtfulBoxesCountAsEmpty(t *testing.T) {
	checkDrawn(t, 1, 0, "? x ?", []int{1}, 0, 0, 2)
	checkDrawn(t, 1, 0, "? ? ?", nil, 0, 0, 1, 2)
	checkDrawn(t, 9, 0, "?x. .?x x.?", []int{2, 0, 1}, 0, 0, 4, 8)
	checkDrawn(t, 9, 1, "?x. ?.. ?.x", nil, 0, 0, 3, 6)
	checkDrawn(t, 3, 0, "?.........x ...x?...... ?.?........", []int{10, 3, 0}, 0, 0, 15, 22, 24)
	checkDecided(t, 1, 0, "? x ?", []api.Decision{empty(0), empty(2)}, []int{1}, 0)
	checkDecided(t, 1, 0, "? x ?", []api.Decision{marked(0)}, nil, 1, 2)
	checkDecided(t, 9, 1, "?x. ?.. ?.x", []api.Decision{marked(3)}, []int{1, 0, 2}, 0, 0, 6)
	checkDecided(t, 9, 1, "?x. ?.. ?.x", []api.Decision{marked(3), marked(6)}, nil, 1, 0)
	checkDecided(t, 3, 0, "?.........x ...x?...... ?.?........", []api.Decision{marked(0), marked(24), empty(22)}, []int{0, 3, 2}, 1, 15)
}

// Doubts lists the boxes that remain in doubt, also those to which the reading does not come.
func TestP25_2DoubtsOfWhatIsNotRead(t *testing.T) {
	checkDrawn(t, 9, 0, "x.? x?. ?..", nil, 1, 2, 4, 6)                              // rank 0 is overvoted
	checkDrawn(t, 9, 0, "?x. .x. x.?", []int{2}, 1, 0, 8)                            // rank 1 is
	checkDrawn(t, 9, 1, "..x ..? .?.", nil, 0, 5, 7)                                 // rank 0 is skipped
	checkDrawn(t, 9, 2, "x...x ....? ...?. ..?.. .?...", []int{0}, 0, 9, 13, 17, 21) // ranks 1 and 2 are
	checkDrawn(t, 9, 0, "xx? ..? ..?", []int{0}, 0, 2, 5, 8)                         // candidate 0 is ranked
	checkDrawn(t, 1, 0, "x ? x ?", nil, 1, 1, 3)                                     // overvoted
	checkDrawn(t, 3, 0, "xx?.......? ?.........x", []int{0, 10}, 1, 2, 10, 11)
	checkDecided(t, 9, 0, "x.? x?. ?..", []api.Decision{marked(6), empty(2)}, nil, 1, 4)
	checkDecided(t, 9, 1, "..x ..? .?.", []api.Decision{marked(7), marked(5)}, nil, 0)
	checkDecided(t, 3, 0, "xx?.......? ?.........x", []api.Decision{marked(2), empty(10)}, []int{0, 10}, 1, 11)
}

// Doubts are in increasing order, whatever is decided, and in whatever order.
func TestP25_2DoubtsAreInOrder(t *testing.T) {
	random := rand.New(rand.NewSource(2502))
	for _, rule := range []uint8{1, 2, 3, 9, 11, 13} {
		c := of(rule, 10)
		n, _ := modelBoxes(c)
		s := uniform(n, 40)
		for range 100 {
			boxes := random.Perm(n)
			split := random.Intn(n + 1)
			var l []api.Decision
			for _, box := range boxes[:split] {
				l = append(l, api.Decision{Box: box, Marked: random.Intn(2) == 0})
			}
			want := slices.Sorted(slices.Values(boxes[split:]))
			if r, e := sheet.Read(c, policy(2), s, l); e != api.OK || !slices.Equal(r.Doubts, want) {
				t.Errorf("rule %d, %s: the doubts are %v, %d; want %v", rule, showDecisions(l), r.Doubts, int(e), want)
			}
		}
	}
}
