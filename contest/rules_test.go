package contest_test

import (
	"bytes"
	"math"
	"math/rand"
	"slices"
	"strings"
	"testing"
	"unsafe"

	"suffrage/api"
	"suffrage/contest"
)

// answer is all that a call returns, in one form for all calls.
type answer struct {
	c    api.Contest
	b    []byte
	word string
	n    int
	same bool
	e    api.Errno
}

func (a answer) equal(b answer) bool {
	return modelSame(a.c, b.c) && bytes.Equal(a.b, b.b) && a.word == b.word && a.n == b.n && a.same == b.same && a.e == b.e
}

// twin returns a copy of a, with strings of its own.
func (a answer) twin() answer {
	a.c, a.b, a.word = roomy(a.c), bytes.Clone(a.b), strings.Clone(a.word)
	return a
}

// scribble overwrites the memory of a up to the capacities.
func (a answer) scribble() {
	scribbleNames(a.c.Cands)
	scribbleBytes(a.b)
}

func scribbleNames(l []string) {
	for i := range l[:cap(l)] {
		l[:cap(l)][i] = "scribbled"
	}
}

func scribbleBytes(b []byte) {
	for i := range b[:cap(b)] {
		b[:cap(b)][i] ^= 0xa5
	}
}

// roomy returns c in memory of its own, with names behind the length of its list.
func roomy(c api.Contest) api.Contest {
	cands := make([]string, 0, len(c.Cands)+5)
	for _, name := range c.Cands {
		cands = append(cands, strings.Clone(name))
	}
	behind := append(cands, "behind", "", " ", "ann", "\x00")
	return api.Contest{Name: strings.Clone(c.Name), Cands: behind[:len(cands)], Seats: c.Seats, Rule: c.Rule}
}

// roomyBytes returns b in memory of its own, with a field behind its length.
func roomyBytes(b []byte) []byte {
	return append(bytes.Clone(b), "\x00\x03zoe\x00\x00"...)[:len(b)]
}

// call is a call with its arguments that have memory.
type call struct {
	name string
	c, d api.Contest
	b    []byte
	do   func(x call) answer
}

func checkCall(x call) answer { return answer{e: contest.Check(x.c)} }

func sameCall(x call) answer { return answer{same: contest.Same(x.c, x.d)} }

func twinCall(x call) answer { return answer{c: contest.Twin(x.c)} }

func bytesCall(x call) answer {
	b, e := contest.Bytes(x.c)
	return answer{b: b, e: e}
}

func readCall(x call) answer {
	c, e := contest.Read(x.b)
	return answer{c: c, e: e}
}

func placeCall(name string) func(call) answer {
	return func(x call) answer {
		at, e := contest.Place(x.c, name)
		return answer{n: at, e: e}
	}
}

func kindCall(rule uint8) func(call) answer {
	return func(call) answer {
		kind, e := contest.Kind(rule)
		return answer{n: int(kind), e: e}
	}
}

func mostCall(rule uint8, cands int) func(call) answer {
	return func(call) answer {
		most, e := contest.Most(rule, cands)
		return answer{n: most, e: e}
	}
}

func wordCall(rule uint8) func(call) answer {
	return func(call) answer {
		word, e := contest.Word(rule)
		return answer{word: word, e: e}
	}
}

func ruleCall(word string) func(call) answer {
	return func(call) answer {
		rule, e := contest.Rule(word)
		return answer{n: int(rule), e: e}
	}
}

// contests returns contests of all kinds, the first three of which are valid, by name.
func contests() map[string]api.Contest {
	return map[string]api.Contest{
		"mayor": mayor(), "ten": of(14, 10, 10), "one": of(1, 1, 1),
		"nothing": {}, "no candidate": of(1, 0, 1), "too many": of(1, 11, 1), "no rule": of(17, 3, 1), "no seat": of(1, 3, 0),
		"a twofold name": {Name: "m", Cands: []string{"ann", "ann"}, Seats: 1, Rule: 1}, "no name": {Name: " ", Cands: []string{"ann", "bob"}, Seats: 1, Rule: 1},
	}
}

// calls returns each of the package's calls, with arguments that have room behind them, right and wrong.
func calls() []call {
	l := []call{
		{name: "Kind", do: kindCall(9)}, {name: "Kind of no rule", do: kindCall(0)},
		{name: "Most", do: mostCall(9, 4)}, {name: "Most of no rule", do: mostCall(17, 4)}, {name: "Most of none", do: mostCall(9, 0)},
		{name: "Word", do: wordCall(9)}, {name: "Word of no rule", do: wordCall(255)},
		{name: "Rule", do: ruleCall("runoff")}, {name: "Rule of no word", do: ruleCall("run")},
	}
	for name, c := range contests() {
		l = append(l,
			call{name: "Check of " + name, c: roomy(c), do: checkCall},
			call{name: "Bytes of " + name, c: roomy(c), do: bytesCall},
			call{name: "Twin of " + name, c: roomy(c), do: twinCall},
			call{name: "Same of " + name, c: roomy(c), d: roomy(c), do: sameCall},
			call{name: "Same of mayor and " + name, c: roomy(mayor()), d: roomy(c), do: sameCall},
			call{name: "Place of ann in " + name, c: roomy(c), do: placeCall("ann")},
			call{name: "Place of bob in " + name, c: roomy(c), do: placeCall("bob")},
			call{name: "Place of c2 in " + name, c: roomy(c), do: placeCall("c2")},
			call{name: "Read of " + name, b: roomyBytes(encoded(c)), do: readCall},
			call{name: "Read of a part of " + name, b: roomyBytes(encoded(c)[:3]), do: readCall},
		)
	}
	return append(l, call{name: "Read of too much", b: roomyBytes(make([]byte, 16385)), do: readCall})
}

// R1

func TestR1ErrorsInOrder(t *testing.T) {
	spoil := map[string]func(c *api.Contest){
		"nothing": func(c *api.Contest) {}, "the name": func(c *api.Contest) { c.Name = "" }, "the seats": func(c *api.Contest) { c.Seats = 0 },
		"the rule": func(c *api.Contest) { c.Rule = 0 }, "a candidate": func(c *api.Contest) { c.Cands[3] = " " },
		"the last": func(c *api.Contest) { c.Cands[len(c.Cands)-1] = "" }, "two": func(c *api.Contest) { c.Cands[2] = c.Cands[9] },
	}
	for name, change := range spoil {
		for _, n := range []int{11, 12, 300} {
			c := of(14, n, 10)
			change(&c)
			_, bytesE := contest.Bytes(c)
			_, placeE := contest.Place(c, "nobody")
			if e := contest.Check(c); e != api.ErrMany || bytesE != e || placeE != e {
				t.Errorf("%s, %d candidates: Check %d, Bytes %d, Place %d; want ErrMany", name, n, int(e), int(bytesE), int(placeE))
			}
			checkRead(t, encoded(c), api.ErrForm) // Read has ErrMany for bytes alone
		}
		c := of(14, 10, 10)
		change(&c)
		want, absent := api.ErrBad, api.ErrBad // ahead of ErrNone
		if name == "nothing" {
			want, absent = api.OK, api.ErrNone
		}
		checkCheck(t, c, want)
		if at, e := contest.Place(c, "nobody"); e != absent || at != 0 {
			t.Errorf("%s: Place = %d, %d; want 0, %d", name, at, int(e), int(absent))
		}
		b := encoded(c)
		checkRead(t, b[:len(b)-1], api.ErrShort) // ahead of ErrForm
		checkRead(t, append(b, 0), api.ErrShort)
		checkRead(t, append(b, make([]byte, 16385)...), api.ErrMany) // ahead of both
		checkRead(t, append(b, bytes.Repeat([]byte{9}, 16385)...), api.ErrMany)
	}
	for _, rule := range []uint8{0, 17, 255} {
		for _, cands := range []int{-1, 0, 11} {
			if most, e := contest.Most(rule, cands); e != api.ErrArg || most != 0 {
				t.Errorf("Most(%d, %d) = %d, %d; want 0, ErrArg", rule, cands, most, int(e))
			}
		}
	}
}

func TestR1ErrorsHaveTheirNumbers(t *testing.T) {
	if api.ErrArg != 2 || api.ErrMany != 4 || api.ErrNone != 6 || api.ErrBad != 8 || api.ErrShort != 10 || api.ErrForm != 11 {
		t.Error("an error has another number")
	}
}

func TestR1NothingBesideAnError(t *testing.T) {
	failed := map[api.Errno]int{}
	for _, c := range calls() {
		a := c.do(c)
		if a.e == api.OK {
			continue
		}
		failed[a.e]++
		if !a.equal(answer{e: a.e}) {
			t.Errorf("%s: %v beside an error", c.name, a)
		}
	}
	for _, e := range []api.Errno{api.ErrArg, api.ErrMany, api.ErrNone, api.ErrBad, api.ErrShort, api.ErrForm} {
		if failed[e] == 0 {
			t.Errorf("no call fails with %d", int(e))
		}
	}
}

// R2

// memory returns a copy of all that a call's arguments hold, up to the capacities.
func memory(x call) (names []string, b []byte) {
	for _, c := range []api.Contest{x.c, x.d} {
		names = append(names, c.Name)
		names = append(names, c.Cands[:cap(c.Cands)]...)
	}
	for i, s := range names {
		names[i] = strings.Clone(s)
	}
	return names, bytes.Clone(x.b[:cap(x.b)])
}

func checkMemory(t *testing.T, x call, names []string, b []byte) {
	t.Helper()
	if namesNow, bNow := memory(x); !slices.Equal(namesNow, names) || !bytes.Equal(bNow, b) {
		t.Errorf("%s: the memory of an argument changes", x.name)
	}
}

func TestR2ArgumentsStay(t *testing.T) {
	for _, x := range calls() {
		names, b := memory(x)
		x.do(x)
		checkMemory(t, x, names, b)
	}
}

func TestR2AnswersShareNothingWithArguments(t *testing.T) {
	for _, x := range calls() {
		a := x.do(x)
		want := a.twin()
		names, b := memory(x)
		a.scribble()
		checkMemory(t, x, names, b)
		a = x.do(x)
		scribbleNames(x.c.Cands)
		scribbleNames(x.d.Cands)
		scribbleBytes(x.b)
		if !a.equal(want) {
			t.Errorf("%s: the answer changes with the arguments", x.name)
		}
	}
}

// overlap reports whether two strings, neither of them empty, share memory.
func overlap(a, b string) bool {
	i, j := uintptr(unsafe.Pointer(unsafe.StringData(a))), uintptr(unsafe.Pointer(unsafe.StringData(b)))
	return a != "" && b != "" && i < j+uintptr(len(b)) && j < i+uintptr(len(a))
}

// R2 holds for names too, though they cannot be changed.
func TestR2NamesAreNew(t *testing.T) {
	for _, x := range calls() {
		a := x.do(x)
		names := append(slices.Clone(a.c.Cands), a.c.Name)
		for i, s := range names {
			for _, old := range append(slices.Clone(x.c.Cands), x.c.Name, unsafe.String(unsafe.SliceData(x.b), len(x.b))) {
				if overlap(s, old) {
					t.Errorf("%s: %q lies in an argument", x.name, s)
				}
			}
			for _, other := range names[:i] {
				if overlap(s, other) {
					t.Errorf("%s: %q and %q share memory", x.name, s, other)
				}
			}
		}
	}
}

// A second answer depends neither on the first, nor on what became of it, nor on calls between.
func TestR2NothingIsKept(t *testing.T) {
	for _, x := range calls() {
		first := x.do(x)
		want := first.twin()
		first.scribble()
		for _, y := range calls() {
			y.do(y)
		}
		again := x.do(x)
		first.scribble()
		if !again.equal(want) {
			t.Errorf("%s: the second answer is %v; want %v", x.name, again, want)
		}
	}
}

// Both arguments of Same may be one contest, and what a call answers may be the argument of another.
func TestR2OneMemory(t *testing.T) {
	c := roomy(mayor())
	if !contest.Same(c, c) || !contest.Same(contest.Twin(contest.Twin(c)), c) {
		t.Errorf("%v is not the same as itself", c)
	}
	d := c
	d.Cands = c.Cands[:1]
	if contest.Same(c, d) || contest.Check(d) != api.OK {
		t.Errorf("%v is the same as its part", c)
	}
	if again := decode(t, encode(t, decode(t, encode(t, c)))); !modelSame(again, mayor()) {
		t.Errorf("%v becomes %v", c, again)
	}
}

// R3

func TestR3NilAndEmptyAreEqual(t *testing.T) {
	empties := [][]string{nil, {}, many(3)[:0], make([]string, 0, 9)}
	for _, c := range []api.Contest{{}, of(1, 0, 1), of(17, 0, -1)} {
		for _, l := range empties {
			a := c
			a.Cands = l
			for _, m := range empties {
				b := c
				b.Cands = m
				if !contest.Same(a, b) || !contest.Same(contest.Twin(a), b) || !contest.Same(a, contest.Twin(b)) {
					t.Errorf("contests with %#v and %#v are not the same", l, m)
				}
				b.Seats++
				if contest.Same(a, b) {
					t.Errorf("contests with %#v and %#v are the same in spite of their seats", l, m)
				}
			}
			checkCheck(t, a, api.ErrBad)
			if b, e := contest.Bytes(a); e != api.ErrBad || len(b) != 0 {
				t.Errorf("Bytes(%v) = %v, %d", a, b, int(e))
			}
			if at, e := contest.Place(a, ""); e != api.ErrBad || at != 0 {
				t.Errorf("Place(%v) = %d, %d", a, at, int(e))
			}
		}
	}
	for _, b := range [][]byte{nil, {}, encode(t, mayor())[:0]} {
		checkRead(t, b, api.ErrForm)
	}
}

// A list without names is not a list with the empty name.
func TestR3EmptyNamesAreNames(t *testing.T) {
	if contest.Same(api.Contest{}, api.Contest{Cands: []string{""}}) || contest.Same(api.Contest{Cands: []string{""}}, api.Contest{Cands: []string{"", ""}}) {
		t.Error("empty names do not count")
	}
}

// R4

// The length of a field is two bytes, the most significant one first; the seats and the rule are one byte each.
func TestR4MostSignificantFirst(t *testing.T) {
	for size := 1; size <= 40; size++ {
		name := strings.Repeat("n", size)
		b := encode(t, api.Contest{Name: name, Cands: []string{"x", name}, Seats: 1, Rule: 9})
		want := "\x00" + string(rune(size)) + name + "\x00\x02\x01\x09\x00\x01x\x00" + string(rune(size)) + name
		if string(b) != want {
			t.Errorf("a name of %d bytes: %q; want %q", size, b, want)
		}
	}
	checkRead(t, []byte("\x05\x00mayor\x02\x00\x01\x07\x03\x00ann\x03\x00bob"), api.ErrShort)
	name := strings.Repeat("n", 258)
	checkRead(t, []byte("\x01\x02"+name+"\x00\x02\x01\x01\x00\x01x"), api.ErrForm)
	checkRead(t, []byte("\x02\x01"+name+"\x00\x02\x01\x01\x00\x01x"), api.ErrShort)
	if c := decode(t, []byte("\x00\x01m\x00\x02\x01\x0e\x00\x01x")); c.Seats != 1 || c.Rule != 14 {
		t.Errorf("the contest has %d seats and the rule %d", c.Seats, c.Rule)
	}
	if c := decode(t, []byte("\x00\x01m\x00\x02\x0a\x10\x00\x01x")); c.Seats != 10 || c.Rule != 16 {
		t.Errorf("the contest has %d seats and the rule %d", c.Seats, c.Rule)
	}
}

// R5

// Candidates keep their order, whatever their names.
func TestR5Order(t *testing.T) {
	names := []string{"m", "z", "a", "B", "b", "~", "!", "aa", "mayor", "9"}
	for turn := range names {
		l := append(slices.Clone(names[turn:]), names[:turn]...)
		c := api.Contest{Name: "mayor", Cands: l, Seats: 1, Rule: 7}
		if d := decode(t, encode(t, c)); !slices.Equal(d.Cands, l) {
			t.Errorf("the candidates %q become %q", l, d.Cands)
		}
		if twin := contest.Twin(c); !slices.Equal(twin.Cands, l) {
			t.Errorf("the candidates of the twin of %q are %q", l, twin.Cands)
		}
		for i, name := range l {
			if at, e := contest.Place(c, name); e != api.OK || at != i {
				t.Errorf("Place of %q in %q = %d, %d; want %d", name, l, at, int(e), i)
			}
		}
		d := c
		d.Cands = append(slices.Clone(l[1:]), l[0])
		if contest.Same(c, d) || bytes.Equal(encode(t, c), encode(t, d)) {
			t.Errorf("%q and %q are the same", l, d.Cands)
		}
	}
}

// R6

// Seats are no smaller for being reduced to a byte, or to any other kind of integer.
func TestR6NothingOverflows(t *testing.T) {
	for _, rule := range []uint8{1, 7, 14} {
		for _, size := range []int{8, 16, 32, 63} {
			for seats := range 11 {
				for _, wide := range []int{seats + 1<<size, seats - 1<<size, -seats} {
					c := of(rule, 10, wide)
					if wide >= 1 && wide <= 10 {
						continue
					}
					checkCheck(t, c, api.ErrBad)
					if b, e := contest.Bytes(c); e != api.ErrBad || len(b) != 0 {
						t.Errorf("Bytes(%v) = %q, %d; want none, ErrBad", c, b, int(e))
					}
					if at, e := contest.Place(c, "c0"); e != api.ErrBad || at != 0 {
						t.Errorf("Place(%v) = %d, %d; want 0, ErrBad", c, at, int(e))
					}
					if contest.Same(c, of(rule, 10, seats)) && wide != seats {
						t.Errorf("%d seats are the same as %d", wide, seats)
					}
					if twin := contest.Twin(c); twin.Seats != wide {
						t.Errorf("%d seats become %d in a twin", wide, twin.Seats)
					}
					if most, e := contest.Most(rule, wide); e != api.ErrArg || most != 0 {
						t.Errorf("Most(%d, %d) = %d, %d; want 0, ErrArg", rule, wide, most, int(e))
					}
				}
			}
		}
	}
}

// R7

// A panic or an endless call would fail the test by itself.
func TestR7AnyArguments(t *testing.T) {
	random := rand.New(rand.NewSource(78))
	lists := [][]string{nil, {}, {""}, many(1), many(10), many(11), make([]string, 10), make([]string, 100000), {strings.Repeat("x", 1<<20), strings.Repeat("x", 1<<20)}}
	numbers := []int{math.MinInt, -1 << 32, -1, 0, 1, 2, 10, 11, 255, 256, 1 << 32, math.MaxInt}
	for _, l := range lists {
		for _, seats := range numbers {
			for _, rule := range []uint8{0, 1, 4, 7, 13, 16, 17, 128, 255} {
				c := api.Contest{Name: "m", Cands: l, Seats: seats, Rule: rule}
				want := modelCheck(c)
				checkCheck(t, c, want)
				b, e := contest.Bytes(c)
				if e != want || len(b) > 0 != (e == api.OK) {
					t.Errorf("Bytes(%s): %d bytes, %d", show(c), len(b), int(e))
				}
				contest.Place(c, "")
				contest.Most(rule, seats)
			}
			c := api.Contest{Name: strings.Repeat("m", 1<<16), Cands: l, Seats: seats}
			if twin := contest.Twin(c); !contest.Same(c, twin) || !modelSame(c, twin) {
				t.Errorf("the twin of %s is another", show(c))
			}
		}
	}
	for range 20000 {
		b := make([]byte, random.Intn(60))
		for i := range b {
			b[i] = byte(random.Intn(1 + random.Intn(256)))
		}
		want, wantE := modelRead(b)
		if c, e := contest.Read(b); e != wantE || !modelSame(c, want) {
			t.Errorf("Read(%q) = %v, %d; want %v, %d", b, c, int(e), want, int(wantE))
		}
	}
	for rule := range 256 {
		contest.Kind(uint8(rule))
		contest.Word(uint8(rule))
		contest.Rule(string([]byte{byte(rule)}))
		contest.Rule(strings.Repeat(string([]byte{byte(rule)}), 1<<16))
	}
}
