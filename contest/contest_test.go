package contest_test

import (
	"bytes"
	"fmt"
	"math"
	"math/rand"
	"slices"
	"strconv"
	"strings"
	"testing"

	"suffrage/api"
	"suffrage/contest"
)

// mayor returns the contest of the chapter's example.
func mayor() api.Contest {
	return api.Contest{Name: "mayor", Cands: []string{"ann", "bob"}, Seats: 1, Rule: 7}
}

// many returns n different names.
func many(n int) []string {
	var l []string
	for i := range n {
		l = append(l, "c"+strconv.Itoa(i))
	}
	return l
}

// of returns a contest of n candidates.
func of(rule uint8, n, seats int) api.Contest {
	return api.Contest{Name: "council", Cands: many(n), Seats: seats, Rule: rule}
}

// ruleNumbers returns the numbers of all rules.
func ruleNumbers() []uint8 {
	return []uint8{1, 2, 3, 4, 5, 6, 7, 8, 9, 10, 11, 12, 13, 14, 15, 16}
}

// wrongSeats are numbers of seats that no contest has. The last byte of many of them is a right number.
func wrongSeats() []int {
	return []int{0, -1, -2, -10, 11, 12, 100, 254, 255, 256, 257, 258, 266, 512, 513, 65536, 65537, 1<<32 + 1, -255, -254, -256,
		1<<63 - 255, math.MaxInt, math.MinInt, math.MinInt + 1}
}

// wrongNames are strings that are no names.
func wrongNames() []string {
	return []string{"", " ", "\x7f", "\x80", "\x1f", "\x00", "\n", "\xff", " a", "a ", "a b", "a\tb", "a\x00", "a\x7f", "\x7fa", "\x80a", "a\xa1", "\xa1\xfe",
		"\u00e9", "\u4e2d", strings.Repeat("n", 41), strings.Repeat("n", 42), strings.Repeat("n", 40) + " ", " " + strings.Repeat("n", 39),
		strings.Repeat("\u00e9", 20), strings.Repeat("n", 255), strings.Repeat("n", 257), strings.Repeat("n", 65536), strings.Repeat("n", 65537)}
}

// rightNames are names.
func rightNames() []string {
	return []string{"a", "!", "~", "!~", "7", "-", "a.b", "Ann", "ANN", "ann-2", "\"", "\\", "mayor", strings.Repeat("n", 39), strings.Repeat("n", 40),
		strings.Repeat("!", 40), strings.Repeat("~", 40)}
}

// show returns the start of a text of c, of which some names are long.
func show(c api.Contest) string {
	s := fmt.Sprintf("%q %q %d %d", c.Name, c.Cands, c.Seats, c.Rule)
	return s[:min(len(s), 300)]
}

func checkCheck(t *testing.T, c api.Contest, want api.Errno) {
	t.Helper()
	if e := contest.Check(c); e != want {
		t.Errorf("Check(%s) = %d; want %d", show(c), int(e), int(want))
	}
}

func encode(t *testing.T, c api.Contest) []byte {
	t.Helper()
	b, e := contest.Bytes(c)
	if e != api.OK {
		t.Fatalf("Bytes(%v): error %d", c, int(e))
	}
	return b
}

func decode(t *testing.T, b []byte) api.Contest {
	t.Helper()
	c, e := contest.Read(b)
	if e != api.OK {
		t.Fatalf("Read(%q): error %d", b, int(e))
	}
	return c
}

// isZero reports whether c is the zero contest.
func isZero(c api.Contest) bool {
	return c.Name == "" && len(c.Cands) == 0 && c.Seats == 0 && c.Rule == 0
}

// P7.1: Check

func TestCheck(t *testing.T) {
	checkCheck(t, mayor(), api.OK)
	checkCheck(t, api.Contest{}, api.ErrBad)
	for _, rule := range ruleNumbers() {
		for n := 1; n <= 10; n++ {
			for seats := 1; seats <= 10; seats++ {
				c := of(rule, n, seats)
				checkCheck(t, c, modelCheck(c))
			}
		}
	}
}

func TestCheckOfNames(t *testing.T) {
	with := func(name string) []api.Contest {
		l := []api.Contest{mayor()}
		l[0].Name = name
		for at := range 3 {
			c := mayor()
			c.Cands = slices.Insert(c.Cands, at, name)
			l = append(l, c)
		}
		return append(l, api.Contest{Name: "m", Cands: []string{name}, Seats: 1, Rule: 1})
	}
	for _, name := range rightNames() {
		for _, c := range with(name) {
			checkCheck(t, c, api.OK)
		}
	}
	for _, name := range wrongNames() {
		for _, c := range with(name) {
			checkCheck(t, c, api.ErrBad)
		}
	}
}

// Each of the 256 bytes, at each place of a name, is one of a name or not.
func TestCheckOfBytes(t *testing.T) {
	for b := range 256 {
		want := api.ErrBad
		if b >= 33 && b <= 126 {
			want = api.OK
		}
		for _, size := range []int{1, 2, 3, 40} {
			for at := range size {
				name := bytes.Repeat([]byte{'n'}, size)
				name[at] = byte(b)
				checkCheck(t, api.Contest{Name: string(name), Cands: []string{"x"}, Seats: 1, Rule: 1}, want)
				checkCheck(t, api.Contest{Name: "x", Cands: []string{"xyz", string(name)}, Seats: 1, Rule: 1}, want)
			}
		}
	}
}

func TestCheckOfLengths(t *testing.T) {
	for size := range 300 {
		want := api.ErrBad
		if size >= 1 && size <= 40 {
			want = api.OK
		}
		name := strings.Repeat("n", size)
		checkCheck(t, api.Contest{Name: name, Cands: []string{"x"}, Seats: 1, Rule: 1}, want)
		checkCheck(t, api.Contest{Name: "x", Cands: []string{"x", name}, Seats: 1, Rule: 1}, want)
	}
}

func TestCheckOfCandidates(t *testing.T) {
	for _, rule := range ruleNumbers() {
		checkCheck(t, of(rule, 0, 1), api.ErrBad)
		checkCheck(t, api.Contest{Name: "council", Cands: []string{}, Seats: 1, Rule: rule}, api.ErrBad)
		for n := 1; n <= 10; n++ {
			checkCheck(t, of(rule, n, 1), api.OK)
		}
		for _, n := range []int{11, 12, 20, 256, 257} {
			checkCheck(t, of(rule, n, 1), api.ErrMany)
		}
	}
}

// What lies behind the length of the list is no candidate.
func TestCheckIgnoresCapacity(t *testing.T) {
	c := of(1, 11, 1)
	c.Cands[10] = c.Cands[0]
	c.Cands = c.Cands[:10]
	checkCheck(t, c, api.OK)
	c.Cands = c.Cands[:0]
	checkCheck(t, c, api.ErrBad)
}

func TestCheckOfEqualNames(t *testing.T) {
	for n := 2; n <= 10; n++ {
		for i := range n {
			for j := range i {
				c := of(1, n, 1)
				c.Cands[i] = c.Cands[j]
				checkCheck(t, c, api.ErrBad)
				c.Cands[i] = c.Name // which the contest has too
				checkCheck(t, c, api.OK)
				c.Cands[j] = c.Name
				checkCheck(t, c, api.ErrBad)
			}
		}
	}
	for _, l := range [][]string{{"ann", "Ann"}, {"ann", "an"}, {"an", "ann"}, {"ann", "anna"}, {"ab", "ba"}, {"a", "aa", "aaa"}, {"00", "0"}} {
		checkCheck(t, api.Contest{Name: "m", Cands: l, Seats: 1, Rule: 1}, api.OK)
	}
}

func TestCheckOfSeats(t *testing.T) {
	for n := 1; n <= 10; n++ {
		for _, rule := range ruleNumbers() {
			most := n // some
			if rule >= 5 && rule <= 10 {
				most = 1
			} else if rule >= 14 {
				most = 10
			}
			for seats := 1; seats <= 10; seats++ {
				want := api.OK
				if seats > most {
					want = api.ErrBad
				}
				checkCheck(t, of(rule, n, seats), want)
			}
			for _, seats := range wrongSeats() {
				checkCheck(t, of(rule, n, seats), api.ErrBad)
			}
		}
	}
}

func TestCheckOfRules(t *testing.T) {
	for rule := range 256 {
		want := api.ErrBad
		if rule >= 1 && rule <= 16 {
			want = api.OK
		}
		checkCheck(t, of(uint8(rule), 1, 1), want)
		checkCheck(t, of(uint8(rule), 10, 1), want)
	}
}

func TestCheckOfRandomContests(t *testing.T) {
	random := rand.New(rand.NewSource(71))
	seen := map[api.Errno]int{}
	for range 20000 {
		c := randomContest(random)
		checkCheck(t, c, modelCheck(c))
		c = spoilt(random, c)
		checkCheck(t, c, modelCheck(c))
		seen[modelCheck(c)]++
	}
	if seen[api.OK] < 1000 || seen[api.ErrBad] < 1000 || seen[api.ErrMany] < 100 {
		t.Errorf("the contests have the errors %v", seen)
	}
}

// P7.1: Same

// variants returns contests that differ from c, and from each other, in one field alone. Many are not valid.
func variants(c api.Contest) []api.Contest {
	var l []api.Contest
	for _, name := range []string{"", "a", c.Name + " ", c.Name + "x", strings.Repeat("n", 41)} {
		d := c
		d.Name = name
		l = append(l, d)
	}
	for _, cands := range [][]string{{""}, {"", ""}, {"ann"}, {"bob", "ann"}, {"ann", "Bob"}, {"ann", "bob", ""}, {"ann", "bob", "ann"}, {"ann", "bobann"},
		{"annbob"}, {"annbob", ""}, {"", "annbob"}, {"an", "nbob"}, many(11)} {
		d := c
		d.Cands = cands
		l = append(l, d)
	}
	for _, seats := range []int{2, 3, 10, 256 + c.Seats, -c.Seats - 1, 1<<32 + c.Seats, math.MaxInt, math.MinInt} {
		d := c
		d.Seats = seats
		l = append(l, d)
	}
	for _, rule := range []uint8{6, 8, 17, 128, 255} {
		d := c
		d.Rule = rule
		l = append(l, d)
	}
	return slices.DeleteFunc(l, func(d api.Contest) bool { return modelSame(c, d) })
}

func TestSame(t *testing.T) {
	for _, c := range []api.Contest{mayor(), {}, {Seats: -1}, {Name: " ", Cands: []string{" ", " "}, Seats: 99, Rule: 200}} {
		l := append(variants(c), c)
		for i, a := range l {
			for j, b := range l {
				if same := contest.Same(a, contest.Twin(b)); same != (i == j) {
					t.Errorf("Same(%v, %v) = %v", a, b, same)
				}
			}
		}
	}
}

func TestSameOfRandomContests(t *testing.T) {
	random := rand.New(rand.NewSource(72))
	equal := 0
	for range 20000 {
		a := randomContest(random)
		b := spoilt(random, a)
		if same := contest.Same(a, b); same != modelSame(a, b) || contest.Same(b, a) != same {
			t.Errorf("Same(%v, %v) = %v", a, b, same)
		}
		if modelSame(a, b) {
			equal++
		}
	}
	if equal == 0 || equal == 20000 {
		t.Errorf("%d pairs are equal", equal)
	}
}

// P7.1: Twin

func TestTwin(t *testing.T) {
	l := append(variants(mayor()), mayor(), api.Contest{}, of(200, 100, -5), api.Contest{Cands: []string{}}, api.Contest{Cands: []string{""}})
	for _, c := range l {
		twin := contest.Twin(c)
		if !modelSame(twin, c) {
			t.Errorf("Twin(%v) = %v", c, twin)
		}
		if len(c.Cands) == 0 {
			continue
		}
		twin.Cands[0] = "changed"
		if c.Cands[0] == "changed" {
			t.Errorf("the twin of %v shares its memory", c)
		}
	}
}

// P7.1: Place

func TestPlace(t *testing.T) {
	for _, c := range []api.Contest{mayor(), of(14, 10, 10), of(5, 1, 1)} {
		for i, name := range c.Cands {
			if at, e := contest.Place(c, name); e != api.OK || at != i {
				t.Errorf("Place(%v, %q) = %d, %d; want %d", c, name, at, int(e), i)
			}
		}
		for _, name := range []string{"", "a", "an", "anna", "nn", "Ann", "ann ", " ann", "ann\x00", "bo", "bobby", "annbob", "mayor", "council", "c", "C0", "c00", "0",
			strings.Repeat("x", 10000)} {
			if at, e := contest.Place(c, name); e != api.ErrNone || at != 0 {
				t.Errorf("Place(%v, %q) = %d, %d; want 0, ErrNone", c, name, at, int(e))
			}
		}
	}
}

// What lies behind the length of the list is no candidate.
func TestPlaceIgnoresCapacity(t *testing.T) {
	c := mayor()
	c.Cands = c.Cands[:1]
	if at, e := contest.Place(c, "bob"); e != api.ErrNone || at != 0 {
		t.Errorf("Place of a name behind the list = %d, %d", at, int(e))
	}
}

func TestPlaceInInvalidContests(t *testing.T) {
	for _, c := range []api.Contest{{}, {Name: "m", Cands: []string{"ann"}, Seats: 2, Rule: 1}, {Name: "", Cands: []string{"ann"}, Seats: 1, Rule: 1},
		{Name: "m", Cands: []string{"x", "ann", "ann"}, Seats: 1, Rule: 1}, {Name: "m", Cands: []string{"ann"}, Seats: 1, Rule: 17}, of(1, 11, 1), of(0, 11, 0)} {
		for _, name := range []string{"ann", "bob", "", "c0"} {
			want, wantE := modelPlace(c, name)
			if at, e := contest.Place(c, name); e != wantE || at != want || e == api.OK || e == api.ErrNone {
				t.Errorf("Place(%v, %q) = %d, %d; want %d, %d", c, name, at, int(e), want, int(wantE))
			}
		}
	}
}

func TestPlaceInRandomContests(t *testing.T) {
	random := rand.New(rand.NewSource(73))
	for range 20000 {
		c := spoilt(random, randomContest(random))
		names := append([]string{"", "a", c.Name}, c.Cands...)
		for _, name := range names {
			want, wantE := modelPlace(c, name)
			if at, e := contest.Place(c, name); e != wantE || at != want {
				t.Errorf("Place(%v, %q) = %d, %d; want %d, %d", c, name, at, int(e), want, int(wantE))
			}
		}
	}
}

// P7.2: Kind

// The numbers of the rules and kinds are those of package api.
func TestKind(t *testing.T) {
	for rule, want := range map[uint8]uint8{
		api.RulePlurality: api.KindMark, api.RuleApproval: api.KindMark, api.RuleScore: api.KindScore, api.RuleBorda: api.KindRank,
		api.RuleCopeland: api.KindRank, api.RuleMinimax: api.KindRank, api.RuleSchulze: api.KindRank, api.RulePairs: api.KindRank,
		api.RuleRunoff: api.KindRank, api.RuleCoombs: api.KindRank, api.RuleGregory: api.KindRank, api.RuleMeek: api.KindRank,
		api.RulePhragmen: api.KindMark, api.RuleDHondt: api.KindMark, api.RuleSainte: api.KindMark, api.RuleHare: api.KindMark,
	} {
		if kind, e := contest.Kind(rule); e != api.OK || kind != want {
			t.Errorf("Kind(%d) = %d, %d; want %d", rule, kind, int(e), want)
		}
	}
}

func TestKindOfEveryNumber(t *testing.T) {
	for rule := range 256 {
		want, wantE := modelKind(uint8(rule))
		if kind, e := contest.Kind(uint8(rule)); e != wantE || kind != want {
			t.Errorf("Kind(%d) = %d, %d; want %d, %d", rule, kind, int(e), want, int(wantE))
		}
	}
}

// P7.2: Most

func TestMost(t *testing.T) {
	if most, e := contest.Most(14, 5); e != api.OK || most != 1 {
		t.Errorf("Most(14, 5) = %d, %d; want 1", most, int(e))
	}
	for _, rule := range ruleNumbers() {
		for cands := 1; cands <= 10; cands++ {
			want := cands
			if rule == 1 || rule >= 14 {
				want = 1
			}
			if most, e := contest.Most(rule, cands); e != api.OK || most != want {
				t.Errorf("Most(%d, %d) = %d, %d; want %d", rule, cands, most, int(e), want)
			}
		}
	}
}

func TestMostOfAnyNumbers(t *testing.T) {
	for rule := range 256 {
		for _, cands := range []int{math.MinInt, -257, -256, -10, -1, 0, 1, 2, 9, 10, 11, 12, 255, 256, 257, 266, 1 << 32, 1<<32 + 1, math.MaxInt} {
			want, wantE := modelMost(uint8(rule), cands)
			if most, e := contest.Most(uint8(rule), cands); e != wantE || most != want {
				t.Errorf("Most(%d, %d) = %d, %d; want %d, %d", rule, cands, most, int(e), want, int(wantE))
			}
		}
	}
}

// P7.2: Word and Rule

// words returns the words of the rules of package api.
func words() map[uint8]string {
	return map[uint8]string{
		api.RulePlurality: "plurality", api.RuleApproval: "approval", api.RuleScore: "score", api.RuleBorda: "borda",
		api.RuleCopeland: "copeland", api.RuleMinimax: "minimax", api.RuleSchulze: "schulze", api.RulePairs: "pairs",
		api.RuleRunoff: "runoff", api.RuleCoombs: "coombs", api.RuleGregory: "gregory", api.RuleMeek: "meek",
		api.RulePhragmen: "phragmen", api.RuleDHondt: "dhondt", api.RuleSainte: "sainte", api.RuleHare: "hare",
	}
}

func TestWordAndRule(t *testing.T) {
	if len(words()) != 16 {
		t.Fatalf("there are %d words", len(words()))
	}
	for rule, want := range words() {
		if word, e := contest.Word(rule); e != api.OK || word != want {
			t.Errorf("Word(%d) = %q, %d; want %q", rule, word, int(e), want)
		}
		if number, e := contest.Rule(want); e != api.OK || number != rule {
			t.Errorf("Rule(%q) = %d, %d; want %d", want, number, int(e), rule)
		}
	}
}

func TestWordOfEveryNumber(t *testing.T) {
	for rule := range 256 {
		want, wantE := modelWord(uint8(rule))
		if word, e := contest.Word(uint8(rule)); e != wantE || word != want {
			t.Errorf("Word(%d) = %q, %d; want %q, %d", rule, word, int(e), want, int(wantE))
		}
	}
}

func TestRuleOfOtherWords(t *testing.T) {
	l := []string{"", " ", "\x00", "1", "7", "marks", "rankings", "one", "some", "lists", "ranked", "single", "condorcet", "paths", "D'Hondt", "Sainte-Lagu\u00eb",
		"phragm\u00e9n", "schulze schulze", "pluralityapproval", strings.Repeat("meek", 10000)}
	for _, word := range words() {
		l = append(l, strings.ToUpper(word), strings.ToUpper(word[:1])+word[1:], word+"s", word+" ", " "+word, word+"\x00", word+"\n", word+word)
		for at := range word {
			l = append(l, word[:at], word[at+1:], word[:at]+word[at+1:])
		}
	}
	for _, word := range l {
		if rule, e := contest.Rule(word); e != api.ErrNone || rule != 0 {
			t.Errorf("Rule(%.40q) = %d, %d; want 0, ErrNone", word, rule, int(e))
		}
		if rule, e := modelRuleWith(word); e != api.ErrNone {
			t.Errorf("%q is the word of rule %d", word, rule)
		}
	}
}

// P7.3: Bytes

func TestBytes(t *testing.T) {
	long := strings.Repeat("n", 40)
	for _, c := range []struct {
		c    api.Contest
		want string
	}{
		{mayor(), "\x00\x05mayor\x00\x02\x01\x07\x00\x03ann\x00\x03bob"},
		{api.Contest{Name: "x", Cands: []string{"x"}, Seats: 1, Rule: 1}, "\x00\x01x\x00\x02\x01\x01\x00\x01x"},
		{api.Contest{Name: "!~", Cands: []string{"a"}, Seats: 10, Rule: 16}, "\x00\x02!~\x00\x02\x0a\x10\x00\x01a"},
		{api.Contest{Name: long, Cands: []string{"b", "a", long}, Seats: 3, Rule: 12}, "\x00\x28" + long + "\x00\x02\x03\x0c\x00\x01b\x00\x01a\x00\x28" + long},
	} {
		if b := encode(t, c.c); string(b) != c.want {
			t.Errorf("Bytes(%v) = %q; want %q", c.c, b, c.want)
		}
	}
}

// The longest encoding is that of ten candidates with names of 40 bytes.
func TestBytesOfLongestContest(t *testing.T) {
	c := api.Contest{Name: strings.Repeat("n", 40), Seats: 10, Rule: 14}
	for i := range 10 {
		c.Cands = append(c.Cands, strings.Repeat(string(rune('a'+i)), 40))
	}
	b := encode(t, c)
	if len(b) != 42+4+10*42 || !bytes.Equal(b, encoded(c)) {
		t.Errorf("Bytes(%v) = %q", c, b)
	}
	if d := decode(t, b); !modelSame(c, d) {
		t.Errorf("Read(%q) = %v; want %v", b, d, c)
	}
}

func TestBytesOfInvalidContests(t *testing.T) {
	l := []api.Contest{{}, of(1, 0, 1), of(1, 3, 4), of(7, 3, 2), of(14, 3, 11), of(0, 3, 1), of(17, 3, 1)}
	for _, seats := range wrongSeats() {
		l = append(l, of(14, 5, seats))
	}
	for _, name := range wrongNames() {
		l = append(l, api.Contest{Name: name, Cands: []string{"a"}, Seats: 1, Rule: 1}, api.Contest{Name: "a", Cands: []string{name}, Seats: 1, Rule: 1})
	}
	for _, c := range l {
		if b, e := contest.Bytes(c); e != api.ErrBad || len(b) != 0 {
			t.Errorf("Bytes(%s) = %q, %d; want none, ErrBad", show(c), b, int(e))
		}
	}
	for _, c := range []api.Contest{of(1, 11, 1), of(0, 11, 0), of(14, 10000, 10)} {
		if b, e := contest.Bytes(c); e != api.ErrMany || len(b) != 0 {
			t.Errorf("Bytes of %d candidates = %q, %d; want none, ErrMany", len(c.Cands), b, int(e))
		}
	}
}

func TestBytesOfRandomContests(t *testing.T) {
	random := rand.New(rand.NewSource(74))
	for range 20000 {
		c := randomContest(random)
		if random.Intn(2) == 0 {
			c = spoilt(random, c)
		}
		want, wantE := modelBytes(c)
		if b, e := contest.Bytes(c); e != wantE || !bytes.Equal(b, want) {
			t.Errorf("Bytes(%v) = %q, %d; want %q, %d", c, b, int(e), want, int(wantE))
		}
	}
}

// P7.3: Read

func checkRead(t *testing.T, b []byte, want api.Errno) {
	t.Helper()
	if c, e := contest.Read(b); e != want || !isZero(c) {
		t.Errorf("Read(%.200q) = %v, %d; want the zero contest, %d", b, c, int(e), int(want))
	}
}

func TestRead(t *testing.T) {
	c := decode(t, []byte("\x00\x05mayor\x00\x02\x01\x07\x00\x03ann\x00\x03bob"))
	if c.Name != "mayor" || !slices.Equal(c.Cands, []string{"ann", "bob"}) || c.Seats != 1 || c.Rule != 7 {
		t.Errorf("the contest of the example is %v", c)
	}
	for _, rule := range ruleNumbers() {
		for n := 1; n <= 10; n++ {
			for seats := 1; seats <= 10; seats++ {
				d := of(rule, n, seats)
				if modelCheck(d) != api.OK {
					checkRead(t, encoded(d), api.ErrForm)
				} else if c := decode(t, encoded(d)); !modelSame(c, d) {
					t.Errorf("Read(%q) = %v; want %v", encoded(d), c, d)
				}
			}
		}
	}
}

// Cut between two fields, an encoding may be that of a contest of fewer candidates; cut elsewhere it is too short.
func TestReadOfCutEncodings(t *testing.T) {
	for _, c := range []api.Contest{mayor(), of(14, 10, 10), of(1, 3, 2), of(1, 10, 10), of(16, 1, 9)} {
		whole := encode(t, c)
		ends := map[int]int{}
		for n := range c.Cands {
			d := c
			d.Cands = c.Cands[:n]
			ends[len(encoded(d))] = n
		}
		for end := range len(whole) {
			n, between := ends[end]
			d := c
			d.Cands = c.Cands[:n]
			switch {
			case end == 0 || end == 2+len(c.Name): // no field, or the name alone
				checkRead(t, whole[:end], api.ErrForm)
			case !between:
				checkRead(t, whole[:end], api.ErrShort)
			case modelCheck(d) != api.OK:
				checkRead(t, whole[:end], api.ErrForm)
			default:
				if got := decode(t, whole[:end]); !modelSame(got, d) {
					t.Errorf("Read(%q) = %v; want %v", whole[:end], got, d)
				}
			}
		}
	}
}

func TestReadOfNothing(t *testing.T) {
	checkRead(t, nil, api.ErrForm)
	checkRead(t, []byte{}, api.ErrForm)
	checkRead(t, []byte{0}, api.ErrShort)
	checkRead(t, []byte{0, 0}, api.ErrForm)
	checkRead(t, []byte{0, 0, 0, 0}, api.ErrForm)
	checkRead(t, make([]byte, 24), api.ErrForm)
	checkRead(t, make([]byte, 25), api.ErrShort)
}

func TestReadWithBytesBehind(t *testing.T) {
	b := encode(t, mayor())
	checkRead(t, append(bytes.Clone(b), 0), api.ErrShort)
	checkRead(t, append(bytes.Clone(b), 0, 0), api.ErrForm)
	checkRead(t, append(bytes.Clone(b), 0, 1), api.ErrShort)
	checkRead(t, append(bytes.Clone(b), 0, 3, 'b', 'o', 'b'), api.ErrForm)
	checkRead(t, append(bytes.Clone(b), 0, 4, 'b', 'o', 'b'), api.ErrShort)
	checkRead(t, append(bytes.Clone(b), b...), api.ErrForm)
	if c := decode(t, append(bytes.Clone(b), 0, 3, 'z', 'o', 'e')); !slices.Equal(c.Cands, []string{"ann", "bob", "zoe"}) {
		t.Errorf("with a third candidate the contest is %v", c)
	}
}

// The second field has two bytes, the seats and the rule.
func TestReadOfSecondFields(t *testing.T) {
	for _, second := range []string{"", "\x01", "\x07", "\x01\x07\x00", "\x00\x01\x07", "\x01\x07\x07", "\x01\x01\x01", "\x00\x00\x01\x07", strings.Repeat("\x01", 300)} {
		for _, behind := range []string{"", "\x00\x03ann", "\x00\x03ann\x00\x03bob"} {
			checkRead(t, []byte("\x00\x05mayor"+modelField(second)+behind), api.ErrForm)
		}
	}
	for seats := range 256 {
		for rule := range 256 {
			d := of(uint8(rule), 5, seats)
			if modelCheck(d) != api.OK {
				checkRead(t, encoded(d), api.ErrForm)
			} else if c := decode(t, encoded(d)); !modelSame(c, d) {
				t.Errorf("Read(%q) = %v; want %v", encoded(d), c, d)
			}
		}
	}
}

func TestReadOfInvalidContests(t *testing.T) {
	l := []api.Contest{{}, {Name: "mayor", Seats: 1, Rule: 7}, {Name: "mayor", Seats: 10, Rule: 14}, of(1, 11, 1), of(14, 11, 10), of(1, 50, 1),
		{Name: "m", Cands: []string{"a", "a"}, Seats: 1, Rule: 1}, {Name: "m", Cands: []string{"a", "b", "a"}, Seats: 1, Rule: 1}}
	for _, name := range wrongNames() {
		if len(name) < 1000 {
			l = append(l, api.Contest{Name: name, Cands: []string{"a"}, Seats: 1, Rule: 1}, api.Contest{Name: "a", Cands: []string{"a", name}, Seats: 1, Rule: 1})
		}
	}
	for _, c := range l {
		checkRead(t, encoded(c), api.ErrForm)
	}
}

func TestReadKeepsToMaxText(t *testing.T) {
	b := encode(t, mayor())
	for _, size := range []int{16385, 16386, 20000, 65536, 1 << 20} {
		checkRead(t, append(bytes.Clone(b), make([]byte, size-len(b))...), api.ErrMany)
		checkRead(t, bytes.Repeat([]byte{255}, size), api.ErrMany)
	}
	checkRead(t, append(bytes.Clone(b), make([]byte, 16384-len(b))...), api.ErrShort) // half a field at the limit
	checkRead(t, append(bytes.Clone(b), make([]byte, 16383-len(b))...), api.ErrForm)  // empty fields behind it
	checkRead(t, make([]byte, 16384), api.ErrForm)
	checkRead(t, bytes.Repeat([]byte{255}, 16384), api.ErrShort)
}

// What lies behind the length of a slice is not part of the encoding.
func TestReadIgnoresCapacity(t *testing.T) {
	b := encode(t, mayor())
	checkRead(t, b[:len(b)-1], api.ErrShort)
	if c := decode(t, b[:len(b)-5]); !slices.Equal(c.Cands, []string{"ann"}) {
		t.Errorf("without the last field the contest is %v", c)
	}
}

// changed returns b with a random change.
func changed(random *rand.Rand, b []byte) []byte {
	b = bytes.Clone(b)
	at := random.Intn(len(b))
	switch random.Intn(5) {
	case 0:
		b[at] = byte(random.Intn(256))
	case 1:
		b[at] ^= 1 << random.Intn(8)
	case 2:
		b = slices.Insert(b, at, byte(random.Intn(20)))
	case 3:
		b = slices.Delete(b, at, at+1)
	case 4:
		b = b[:at]
	}
	return b
}

func TestReadOfRandomEncodings(t *testing.T) {
	random := rand.New(rand.NewSource(75))
	seen := map[api.Errno]int{}
	for range 40000 {
		b := encoded(randomContest(random))
		if random.Intn(4) > 0 {
			b = changed(random, b)
		}
		want, wantE := modelRead(b)
		c, e := contest.Read(b)
		if e != wantE || !modelSame(c, want) {
			t.Errorf("Read(%q) = %v, %d; want %v, %d", b, c, int(e), want, int(wantE))
		}
		seen[e]++
	}
	if seen[api.OK] < 1000 || seen[api.ErrForm] < 1000 || seen[api.ErrShort] < 1000 {
		t.Errorf("the encodings have the errors %v", seen)
	}
}

// P7.4

func TestReadUndoesBytes(t *testing.T) {
	random := rand.New(rand.NewSource(76))
	valid, encodings := 0, map[string]api.Contest{}
	for range 20000 {
		c := randomContest(random)
		if modelCheck(c) != api.OK {
			continue
		}
		valid++
		b := encode(t, c)
		if d := decode(t, b); !modelSame(c, d) || !contest.Same(c, d) {
			t.Errorf("Read(Bytes(%v)) = %v", c, d)
		}
		if d, ok := encodings[string(b)]; ok && !modelSame(c, d) {
			t.Errorf("%v and %v have one encoding", c, d)
		}
		encodings[string(b)] = c
	}
	if valid < 3000 {
		t.Errorf("%d contests are valid", valid)
	}
}

func TestBytesUndoesRead(t *testing.T) {
	random := rand.New(rand.NewSource(77))
	read := 0
	for range 40000 {
		b := changed(random, encoded(randomContest(random)))
		c, e := contest.Read(b)
		if e != api.OK {
			continue
		}
		read++
		if again := encode(t, c); !bytes.Equal(again, b) {
			t.Errorf("Bytes(Read(%q)) = %q", b, again)
		}
	}
	if read < 1000 {
		t.Errorf("%d encodings were read", read)
	}
}

func TestRuleUndoesWord(t *testing.T) {
	seen := map[string]bool{}
	for rule := range 256 {
		word, e := contest.Word(uint8(rule))
		if e != api.OK {
			continue
		}
		seen[word] = true
		number, e := contest.Rule(word)
		if e != api.OK || number != uint8(rule) {
			t.Errorf("Rule(Word(%d)) = %d, %d", rule, number, int(e))
		}
		if again, e := contest.Word(number); e != api.OK || again != word {
			t.Errorf("Word(Rule(%q)) = %q, %d", word, again, int(e))
		}
	}
	if len(seen) != 16 {
		t.Errorf("there are %d words", len(seen))
	}
}
