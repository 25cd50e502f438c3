package roll_test

import (
	"bytes"
	"math/rand"
	"slices"
	"strings"
	"testing"

	"suffrage/api"
	"suffrage/octet"
	"suffrage/roll"
)

// P24.3: Bytes

func TestP24_3Bytes(t *testing.T) {
	checkBytes(t, nil, "", api.OK)
	checkBytes(t, []api.Voter{}, "", api.OK)
	checkBytes(t, []api.Voter{of("a", 0, 1)}, "\x00\x03\x00\x01a", api.OK)
	checkBytes(t, free("ann", "bob"), "\x00\x05\x01\x01ann\x00\x05\x01\x01bob", api.OK)
	checkBytes(t, town(), "\x00\x05\x00\x01Zoe\x00\x05\x01\x02ann\x00\x05\x01\x03bob\x00\x07\x07\x04bobby\x00\x04\x00\x02cy", api.OK)
	long := strings.Repeat("~", 40)
	checkBytes(t, []api.Voter{of(long, 7, 4)}, "\x00\x2a\x07\x04"+long, api.OK)
}

func TestP24_3BytesOfEachVoter(t *testing.T) {
	for precinct := range 8 {
		for state := uint8(1); state <= 4; state++ {
			for _, name := range rightNames() {
				field := string([]byte{0, byte(len(name) + 2), byte(precinct), state}) + name
				checkBytes(t, []api.Voter{of(name, precinct, state)}, field, api.OK)
				checkRead(t, []byte(field), []api.Voter{of(name, precinct, state)}, api.OK)
			}
		}
	}
}

// The longest encoding is that of a full roll with names of 40 bytes, and it fits.
func TestP24_3BytesOfTheLongestRoll(t *testing.T) {
	b, e := roll.Bytes(longest())
	if e != api.OK || len(b) != 64*44 || !bytes.Equal(b, encoded(longest())) {
		t.Errorf("Bytes of the longest roll: %d bytes, %d", len(b), int(e))
	}
	checkRead(t, b, longest(), api.OK)
	for n := range 65 {
		checkBytes(t, many(n), string(encoded(many(n))), api.OK)
		checkRead(t, encoded(many(n)), many(n), api.OK)
	}
}

func TestP24_3BytesOfListsThatAreNoRolls(t *testing.T) {
	for _, l := range badLists() {
		checkBytes(t, l, "", api.ErrBad)
	}
	for _, name := range wrongNames() {
		checkBytes(t, free(name), "", api.ErrBad)
	}
	for _, precinct := range wrongPrecincts() {
		checkBytes(t, []api.Voter{of("ann", precinct, 1)}, "", api.ErrBad)
	}
	for _, n := range []int{65, 100, 1000} {
		checkBytes(t, many(n), "", api.ErrMany)
		checkBytes(t, make([]api.Voter, n), "", api.ErrMany)
	}
}

func TestP24_3BytesOfRandomRolls(t *testing.T) {
	random := rand.New(rand.NewSource(2408))
	for range 10000 {
		l := randomRoll(random, 12)
		if random.Intn(3) == 0 {
			l = spoilt(random, l)
		}
		want, wantE := modelBytes(l)
		checkBytes(t, l, string(want), wantE)
	}
}

// P24.3: Read

func TestP24_3Read(t *testing.T) {
	checkRead(t, nil, nil, api.OK)
	checkRead(t, []byte{}, nil, api.OK)
	checkRead(t, []byte("\x00\x03\x00\x01a"), []api.Voter{of("a", 0, 1)}, api.OK)
	checkRead(t, []byte("\x00\x05\x01\x01ann\x00\x05\x01\x01bob"), free("ann", "bob"), api.OK)
	checkRead(t, []byte("\x00\x05\x00\x01Zoe\x00\x05\x01\x02ann\x00\x05\x01\x03bob\x00\x07\x07\x04bobby\x00\x04\x00\x02cy"), town(), api.OK)
}

// Fields of 0, 1 and 2 bytes are no voters, those of 3 are; also between, before and behind others.
func TestP24_3ReadOfShortFields(t *testing.T) {
	for _, field := range []string{"", "\x00", "\x01", "a", "\x00\x01", "\x01\x01", "\x07\x04", "ab"} {
		before, behind := modelField("\x01\x01ann"), modelField("\x01\x01bob")
		for _, s := range []string{modelField(field), before + modelField(field), modelField(field) + behind, before + modelField(field) + behind, modelField(field) + modelField(field)} {
			checkRead(t, []byte(s), nil, api.ErrForm)
		}
	}
	checkRead(t, []byte("\x00\x03\x01\x01a"), free("a"), api.OK)
	checkRead(t, []byte(modelField("\x01\x01a")+modelField("\x01\x01b")+modelField("\x01\x01c")), free("a", "b", "c"), api.OK)
	checkRead(t, []byte("\x00\x03\x01\x01 "), nil, api.ErrForm)
}

// All precincts and states that a byte has, of the first, a middle and the last voter.
func TestP24_3ReadOfPrecinctsAndStates(t *testing.T) {
	for at := range 3 {
		for first := range 256 {
			for second := range 256 {
				l := with(free("ann", "bob", "cy"), func(l []api.Voter) { l[at].Precinct, l[at].State = first, uint8(second) })
				if first < 8 && second >= 1 && second <= 4 {
					checkRead(t, encoded(l), l, api.OK)
				} else {
					checkRead(t, encoded(l), nil, api.ErrForm)
				}
			}
		}
	}
}

func TestP24_3ReadOfNames(t *testing.T) {
	for _, name := range rightNames() {
		checkRead(t, encoded(free(name)), free(name), api.OK)
	}
	for _, name := range wrongNames() {
		if len(name) > 10000 {
			continue
		}
		checkRead(t, encoded(free(name)), nil, api.ErrForm)
		checkRead(t, encoded(free("!", name)), nil, api.ErrForm)
		checkRead(t, encoded(free(name, "~")), nil, api.ErrForm)
	}
	for b := range 256 {
		for _, name := range []string{string([]byte{byte(b)}), string([]byte{byte(b), 'n', 'n'}), string([]byte{'n', byte(b), 'n'}), string([]byte{'n', 'n', byte(b)})} {
			if b >= 33 && b <= 126 {
				checkRead(t, encoded(free(name)), free(name), api.OK)
			} else {
				checkRead(t, encoded(free(name)), nil, api.ErrForm)
			}
		}
	}
	for size := 1; size <= 40; size++ {
		checkRead(t, encoded(free(strings.Repeat("n", size))), free(strings.Repeat("n", size)), api.OK)
	}
	for _, size := range []int{41, 42, 100, 253, 254, 255, 256, 296, 1000, 16380} {
		checkRead(t, encoded(free(strings.Repeat("n", size))), nil, api.ErrForm)
	}
}

func TestP24_3ReadOfVotersOutOfOrder(t *testing.T) {
	for _, l := range badLists() {
		checkRead(t, encoded(l), nil, api.ErrForm)
	}
	for _, l := range [][]api.Voter{town(), many(2), many(64), longest()} {
		for i := 1; i < len(l); i++ {
			checkRead(t, encoded(with(l, func(l []api.Voter) { l[i], l[i-1] = l[i-1], l[i] })), nil, api.ErrForm)
			checkRead(t, encoded(with(l, func(l []api.Voter) { l[i] = l[i-1] })), nil, api.ErrForm)
			checkRead(t, encoded(with(l, func(l []api.Voter) { l[i].Name = l[i-1].Name })), nil, api.ErrForm)
		}
		checkRead(t, append(encoded(l), encoded(l)...), nil, api.ErrForm)
		checkRead(t, encoded(with(l, func(l []api.Voter) { slices.Reverse(l) })), nil, api.ErrForm)
	}
	checkRead(t, encoded([]api.Voter{of("ann", 1, 1), of("ann", 2, 3)}), nil, api.ErrForm)
}

// One voter more than a roll may have is no limit of Split, and so no ErrMany.
func TestP24_3ReadOfTooManyVoters(t *testing.T) {
	checkRead(t, encoded(many(64)), many(64), api.OK)
	for _, n := range []int{65, 66, 100, 256, 320, 1000} {
		checkRead(t, encoded(many(n)), nil, api.ErrForm)
	}
	checkRead(t, append(encoded(longest()), encoded([]api.Voter{of("z", 0, 1)})...), nil, api.ErrForm)
}

// Bytes behind an encoding are another field, or too short for one.
func TestP24_3ReadWithBytesBehind(t *testing.T) {
	for _, l := range [][]api.Voter{nil, free("ann"), town(), many(63), many(64), longest()} {
		b := encoded(l)
		checkRead(t, append(bytes.Clone(b), 0), nil, api.ErrShort)
		checkRead(t, append(bytes.Clone(b), 255), nil, api.ErrShort)
		checkRead(t, append(bytes.Clone(b), 0, 0), nil, api.ErrForm)
		checkRead(t, append(bytes.Clone(b), 0, 0, 0), nil, api.ErrShort)
		checkRead(t, append(bytes.Clone(b), 0, 1), nil, api.ErrShort)
		checkRead(t, append(bytes.Clone(b), 0, 1, 'z'), nil, api.ErrForm)
		checkRead(t, append(bytes.Clone(b), 0, 3, 0, 1), nil, api.ErrShort)
		for _, name := range []byte{'!', '~'} { // of which the first is out of order, except in an empty roll
			more := append(bytes.Clone(b), 0, 3, 0, 1, name)
			want, wantE := modelRead(more)
			if (wantE == api.OK) != (len(l) == 0 || len(l) < 64 && name == '~') {
				t.Errorf("the model reads %q with %d", more, int(wantE))
			}
			checkRead(t, more, want, wantE)
		}
	}
}

// Cut between two fields, an encoding is that of a roll of fewer voters; cut elsewhere it is too short.
func TestP24_3ReadOfCutEncodings(t *testing.T) {
	for _, l := range [][]api.Voter{free("ann"), town(), many(64), longest()} {
		whole := encoded(l)
		ends := map[int]int{}
		for n := range l {
			ends[len(encoded(l[:n]))] = n
		}
		for end := range len(whole) {
			if n, between := ends[end]; between {
				checkRead(t, whole[:end], l[:n], api.OK)
			} else {
				checkRead(t, whole[:end], nil, api.ErrShort)
			}
		}
	}
}

// The errors of octet.Split, ErrMany and ErrShort, come ahead of ErrForm.
func TestP24_3ReadHasTheErrorsOfSplitFirst(t *testing.T) {
	wrong := append(encoded(free("bob", "ann")), 0, 0)
	for _, start := range [][]byte{nil, encoded(free("ann")), wrong, encoded(many(65)), {0, 0}} {
		checkRead(t, append(bytes.Clone(start), 0), nil, api.ErrShort)
		checkRead(t, append(bytes.Clone(start), 0, 9, 'x'), nil, api.ErrShort)
		checkRead(t, append(bytes.Clone(start), 255, 255), nil, api.ErrShort)
		for _, size := range []int{16385, 16386, 20000, 65536, 1 << 20} {
			for _, b := range []byte{0, 1, 255} {
				checkRead(t, append(bytes.Clone(start), bytes.Repeat([]byte{b}, size-len(start))...), nil, api.ErrMany)
			}
		}
		checkRead(t, append(bytes.Clone(start), bytes.Repeat([]byte{255}, 16384-len(start))...), nil, api.ErrShort)
	}
	checkRead(t, make([]byte, 16384), nil, api.ErrForm)
	checkRead(t, make([]byte, 16383), nil, api.ErrShort)
	for _, b := range [][]byte{{0}, {5}, {0, 1}, {0, 3, 0, 1}, make([]byte, 16385)} {
		_, want := octet.Split(b)
		if want == api.OK {
			t.Errorf("Split(%.20q) has no error", b)
		}
		checkRead(t, b, nil, want)
	}
}

// What lies behind the length of a slice is not part of the encoding.
func TestP24_3ReadIgnoresCapacity(t *testing.T) {
	b := encoded(town())
	checkRead(t, b[:7], town()[:1], api.OK)
	checkRead(t, b[:6], nil, api.ErrShort)
	checkRead(t, b[:0], nil, api.OK)
}

// Every change of one byte makes the encoding of another roll, or none.
func TestP24_3ReadAfterEveryChangeOfAByte(t *testing.T) {
	for _, l := range [][]api.Voter{free("a"), town(), {of("a", 0, 1), of("b", 7, 4), of("bb", 3, 2), of(strings.Repeat("c", 40), 1, 3)}, many(64)} {
		whole := encoded(l)
		others := 0
		for at := range whole {
			for b := range 256 {
				if byte(b) == whole[at] || len(l) == 64 && b%5 > 0 && b > 8 {
					continue
				}
				changed := bytes.Clone(whole)
				changed[at] = byte(b)
				want, wantE := modelRead(changed)
				checkRead(t, changed, want, wantE)
				if wantE == api.OK {
					others++
					if modelSame(want, l) {
						t.Errorf("%q and %q are one roll", changed, whole)
					}
					checkBytes(t, want, string(changed), api.OK)
				} else if wantE != api.ErrShort && wantE != api.ErrForm {
					t.Errorf("Read(%q): %d", changed, int(wantE))
				}
			}
		}
		if others < 10 {
			t.Errorf("%s: %d other rolls", show(l), others)
		}
	}
}

// changed returns b with a random change.
func changed(random *rand.Rand, b []byte) []byte {
	b = bytes.Clone(b)
	if len(b) == 0 {
		return append(b, byte(random.Intn(3)))
	}
	at := random.Intn(len(b))
	switch random.Intn(5) {
	case 0:
		b[at] = byte(random.Intn(256))
	case 1:
		b[at] ^= 1 << random.Intn(8)
	case 2:
		b = slices.Insert(b, at, byte(random.Intn(20)))
	case 3:
		b = slices.Delete(b, at, at+1)
	case 4:
		b = b[:at]
	}
	return b
}

func TestP24_3ReadOfRandomEncodings(t *testing.T) {
	random := rand.New(rand.NewSource(2409))
	seen := map[api.Errno]int{}
	for range 40000 {
		b := encoded(randomRoll(random, 8))
		if random.Intn(4) > 0 {
			b = changed(random, b)
		}
		want, wantE := modelRead(b)
		checkRead(t, b, want, wantE)
		seen[wantE]++
	}
	if seen[api.OK] < 1000 || seen[api.ErrForm] < 1000 || seen[api.ErrShort] < 1000 {
		t.Errorf("the encodings have the errors %v", seen)
	}
}

func TestP24_3ReadUndoesBytes(t *testing.T) {
	random := rand.New(rand.NewSource(2410))
	encodings := map[string][]api.Voter{}
	for range 20000 {
		l := randomRoll(random, 3)
		b, e := roll.Bytes(l)
		if e != api.OK {
			t.Errorf("Bytes(%s): error %d", show(l), int(e))
		}
		checkRead(t, b, l, api.OK)
		if other, ok := encodings[string(b)]; ok && !modelSame(l, other) {
			t.Errorf("%s and %s have one encoding", show(l), show(other))
		}
		encodings[string(b)] = l
	}
}

func TestP24_3BytesUndoesRead(t *testing.T) {
	random := rand.New(rand.NewSource(2411))
	read := 0
	for range 40000 {
		b := changed(random, encoded(randomRoll(random, 6)))
		l, e := roll.Read(b)
		if e != api.OK {
			continue
		}
		read++
		checkBytes(t, l, string(b), api.OK)
	}
	if read < 1000 {
		t.Errorf("%d encodings were read", read)
	}
}
