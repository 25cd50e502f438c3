package octet_test

import (
	"bytes"
	"fmt"
	"math"
	"testing"

	"suffrage/api"
	"suffrage/octet"
)

// wrongSizes are sizes of no integer.
var wrongSizes = []int{0, 9, -1, -8, 16, 64, math.MinInt, math.MaxInt}

// wrongIndices returns indices that are not from 0 to n.
func wrongIndices(n int) []int {
	return []int{-1, -2, n + 1, n + 2, math.MinInt, math.MaxInt}
}

// most returns the greatest integer that fits into size bytes.
func most(size int) uint64 {
	if size == 8 {
		return math.MaxUint64
	}
	return 1<<(8*size) - 1
}

// filled returns n bytes, none of which is 0 and which differ from their neighbours.
func filled(n int) []byte {
	b := make([]byte, n)
	for i := range b {
		b[i] = byte(1 + i%251)
	}
	return b
}

func put(t *testing.T, b []byte, n uint64, size int) []byte {
	t.Helper()
	out, e := octet.Put(b, n, size)
	if e != api.OK {
		t.Fatalf("Put(%d bytes, %d, %d): error %d", len(b), n, size, int(e))
	}
	return out
}

func join(t *testing.T, l [][]byte) []byte {
	t.Helper()
	out, e := octet.Join(l)
	if e != api.OK {
		t.Fatalf("Join of %d elements: error %d", len(l), int(e))
	}
	return out
}

// equalLists compares element by element; nil and empty ones are equal.
func equalLists(a, b [][]byte) bool {
	if len(a) != len(b) {
		return false
	}
	for i := range a {
		if !bytes.Equal(a[i], b[i]) {
			return false
		}
	}
	return true
}

// P1.1

func TestPutWritesBytesInOrder(t *testing.T) {
	for _, c := range []struct {
		b    []byte
		n    uint64
		size int
		want []byte
	}{
		{[]byte{7}, 258, 2, []byte{7, 1, 2}},
		{nil, 0, 1, []byte{0}},
		{[]byte{}, 0, 8, make([]byte, 8)},
		{[]byte{9}, 70000, 3, []byte{9, 1, 0x11, 0x70}},
		{[]byte{1, 2, 3}, 5, 4, []byte{1, 2, 3, 0, 0, 0, 5}},
		{nil, 0x0102030405060708, 8, []byte{1, 2, 3, 4, 5, 6, 7, 8}},
		{nil, 0x81828384858687, 7, []byte{0x81, 0x82, 0x83, 0x84, 0x85, 0x86, 0x87}},
		{nil, math.MaxUint64, 8, bytes.Repeat([]byte{255}, 8)},
	} {
		out, e := octet.Put(c.b, c.n, c.size)
		if e != api.OK || !bytes.Equal(out, c.want) {
			t.Errorf("Put(%v, %d, %d) = %v, %d; want %v", c.b, c.n, c.size, out, int(e), c.want)
		}
	}
}

func TestPutRejectsWhatDoesNotFit(t *testing.T) {
	for size := 1; size <= 8; size++ {
		out := put(t, nil, most(size), size)
		if !bytes.Equal(out, bytes.Repeat([]byte{255}, size)) {
			t.Errorf("the greatest integer of %d bytes: %v", size, out)
		}
		if size == 8 {
			continue
		}
		for _, n := range []uint64{most(size) + 1, most(size) + 2, math.MaxUint64, 1 << 63} {
			if out, e := octet.Put(nil, n, size); e != api.ErrArg || len(out) != 0 {
				t.Errorf("Put(nil, %d, %d) = %v, %d; want ErrArg", n, size, out, int(e))
			}
		}
	}
}

func TestPutRejectsSizes(t *testing.T) {
	for _, size := range wrongSizes {
		for _, n := range []uint64{0, 1, math.MaxUint64} {
			if out, e := octet.Put([]byte{1}, n, size); e != api.ErrArg || len(out) != 0 {
				t.Errorf("Put(1, %d, %d) = %v, %d; want ErrArg", n, size, out, int(e))
			}
		}
	}
}

func TestPutKeepsToMaxText(t *testing.T) {
	for size := 1; size <= 8; size++ {
		b := filled(api.MaxText - size)
		out := put(t, b, 200, size)
		if len(out) != api.MaxText || !bytes.Equal(out[:len(b)], b) || out[api.MaxText-1] != 200 {
			t.Errorf("size %d: a result of MaxText bytes is wrong", size)
		}
		for _, n := range []int{api.MaxText - size + 1, api.MaxText, api.MaxText + 1, 1 << 20} {
			if out, e := octet.Put(filled(n), 200, size); e != api.ErrMany || len(out) != 0 {
				t.Errorf("Put(%d bytes, 200, %d): %d bytes, %d; want ErrMany", n, size, len(out), int(e))
			}
		}
	}
}

func TestTakeReadsBytesInOrder(t *testing.T) {
	b := []byte{0, 1, 2, 3, 4, 5, 6, 7, 8, 255}
	for _, c := range []struct {
		at, size int
		n        uint64
	}{
		{0, 1, 0}, {0, 2, 1}, {1, 2, 258}, {9, 1, 255}, {8, 2, 0x08ff},
		{1, 8, 0x0102030405060708}, {2, 8, 0x02030405060708ff}, {5, 4, 0x05060708}, {2, 3, 0x020304},
	} {
		n, next, e := octet.Take(b, c.at, c.size)
		if e != api.OK || n != c.n || next != c.at+c.size {
			t.Errorf("Take at %d of %d bytes = %d, %d, %d; want %d", c.at, c.size, n, next, int(e), c.n)
		}
	}
	if n, _, e := octet.Take(bytes.Repeat([]byte{255}, 8), 0, 8); e != api.OK || n != math.MaxUint64 {
		t.Errorf("Take of the greatest integer = %d, %d", n, int(e))
	}
}

func wantTake(t *testing.T, b []byte, at, size int, want api.Errno) {
	t.Helper()
	if n, next, e := octet.Take(b, at, size); e != want || n != 0 || next != 0 {
		t.Errorf("Take(%d bytes, %d, %d) = %d, %d, %d; want 0, 0, %d", len(b), at, size, n, next, int(e), int(want))
	}
}

func TestTakeRejectsArguments(t *testing.T) {
	for _, b := range [][]byte{nil, {}, {5}, filled(20)} {
		for _, at := range wrongIndices(len(b)) {
			for size := 1; size <= 8; size++ {
				wantTake(t, b, at, size, api.ErrArg)
			}
		}
		for _, size := range wrongSizes {
			for at := -1; at <= len(b)+1; at++ {
				wantTake(t, b, at, size, api.ErrArg)
			}
		}
	}
}

func TestTakeRejectsShortInput(t *testing.T) {
	for size := 1; size <= 8; size++ {
		for n := range 12 {
			b := filled(n)
			for at := 0; at <= n; at++ {
				if n-at < size {
					wantTake(t, b, at, size, api.ErrShort)
				} else if _, next, e := octet.Take(b, at, size); e != api.OK || next != at+size {
					t.Errorf("Take(%d bytes, %d, %d): %d, %d", n, at, size, next, int(e))
				}
			}
		}
	}
}

// The bytes behind the length of a slice are not part of it.
func TestTakeIgnoresCapacity(t *testing.T) {
	whole := filled(16)
	wantTake(t, whole[:2], 0, 3, api.ErrShort)
	wantTake(t, whole[:2], 2, 1, api.ErrShort)
	wantTake(t, whole[:2], 3, 1, api.ErrArg)
}

func TestTakeHasNoMaxText(t *testing.T) {
	b := make([]byte, 5*api.MaxText)
	copy(b[len(b)-2:], []byte{1, 2})
	if n, next, e := octet.Take(b, len(b)-2, 2); e != api.OK || n != 258 || next != len(b) {
		t.Errorf("Take at the end of long input = %d, %d, %d", n, next, int(e))
	}
}

// P1.2

func TestPutField(t *testing.T) {
	for _, c := range []struct{ b, field, want []byte }{
		{nil, []byte{5, 6}, []byte{0, 2, 5, 6}},
		{[]byte{7}, []byte{5, 6}, []byte{7, 0, 2, 5, 6}},
		{nil, nil, []byte{0, 0}},
		{[]byte{}, []byte{}, []byte{0, 0}},
		{[]byte{1, 2}, nil, []byte{1, 2, 0, 0}},
		{[]byte{9}, filled(258), append([]byte{9, 1, 2}, filled(258)...)},
	} {
		out, e := octet.PutField(c.b, c.field)
		if e != api.OK || !bytes.Equal(out, c.want) {
			t.Errorf("PutField(%v, %v) = %v, %d; want %v", c.b, c.field, out, int(e), c.want)
		}
	}
}

func TestPutFieldKeepsToLimits(t *testing.T) {
	for _, c := range []struct {
		b, field int
		want     api.Errno
	}{
		{0, api.MaxText - 2, api.OK}, {0, api.MaxText - 1, api.ErrMany}, {0, api.MaxText, api.ErrMany},
		{api.MaxText - 2, 0, api.OK}, {api.MaxText - 1, 0, api.ErrMany}, {api.MaxText, 0, api.ErrMany},
		{api.MaxText + 1, 0, api.ErrMany}, {1 << 20, 0, api.ErrMany},
		{1000, api.MaxText - 1002, api.OK}, {1000, api.MaxText - 1001, api.ErrMany},
		{0, 65535, api.ErrMany}, {0, 65536, api.ErrMany}, {0, 65537, api.ErrMany}, {0, 65536 + 5, api.ErrMany},
		{0, 1 << 20, api.ErrMany}, {1 << 20, 1 << 20, api.ErrMany},
	} {
		b, field := filled(c.b), filled(c.field)
		out, e := octet.PutField(b, field)
		if e != c.want {
			t.Errorf("PutField(%d bytes, %d bytes): error %d; want %d", c.b, c.field, int(e), int(c.want))
			continue
		}
		if e != api.OK {
			if len(out) != 0 {
				t.Errorf("PutField(%d bytes, %d bytes): %d bytes beside an error", c.b, c.field, len(out))
			}
			continue
		}
		want := append(append(bytes.Clone(b), byte(c.field>>8), byte(c.field)), field...)
		if !bytes.Equal(out, want) {
			t.Errorf("PutField(%d bytes, %d bytes): wrong bytes", c.b, c.field)
		}
	}
}

func TestTakeField(t *testing.T) {
	b := []byte{0, 2, 5, 6, 0, 0, 0, 1, 9}
	for _, c := range []struct {
		at    int
		field []byte
		next  int
	}{
		{0, []byte{5, 6}, 4}, {4, nil, 6}, {6, []byte{9}, 9}, {5, nil, 7},
	} {
		field, next, e := octet.TakeField(b, c.at)
		if e != api.OK || !bytes.Equal(field, c.field) || next != c.next {
			t.Errorf("TakeField at %d = %v, %d, %d; want %v, %d", c.at, field, next, int(e), c.field, c.next)
		}
	}
}

func TestTakeFieldOfAnyLength(t *testing.T) {
	for _, n := range []int{0, 1, 255, 256, 257, api.MaxText, 32767, 32768, 65534, 65535} {
		b := append(append([]byte{8, byte(n >> 8), byte(n)}, filled(n)...), 1, 2, 3)
		field, next, e := octet.TakeField(b, 1)
		if e != api.OK || !bytes.Equal(field, filled(n)) || next != 3+n {
			t.Errorf("TakeField of %d bytes: %d bytes, %d, %d", n, len(field), next, int(e))
		}
		if field, next, e := octet.TakeField(b[:3+n], 1); e != api.OK || len(field) != n || next != 3+n {
			t.Errorf("TakeField of %d bytes at the end: %d bytes, %d, %d", n, len(field), next, int(e))
		}
		wantTakeField(t, b[:2+n], 1, api.ErrShort)
	}
}

func wantTakeField(t *testing.T, b []byte, at int, want api.Errno) {
	t.Helper()
	if field, next, e := octet.TakeField(b, at); e != want || len(field) != 0 || next != 0 {
		t.Errorf("TakeField(%d bytes, %d): %d bytes, %d, %d; want none, 0, %d", len(b), at, len(field), next, int(e), int(want))
	}
}

func TestTakeFieldRejects(t *testing.T) {
	for _, b := range [][]byte{nil, {}, {0}, {0, 0}, {0, 2, 5, 6}, {255, 255, 1}} {
		for _, at := range wrongIndices(len(b)) {
			wantTakeField(t, b, at, api.ErrArg)
		}
		wantTakeField(t, b, len(b), api.ErrShort)
	}
	wantTakeField(t, []byte{0}, 0, api.ErrShort)
	wantTakeField(t, []byte{0, 0}, 1, api.ErrShort)
	wantTakeField(t, []byte{0, 1}, 0, api.ErrShort)
	wantTakeField(t, []byte{0, 2, 5}, 0, api.ErrShort)
	wantTakeField(t, []byte{1, 0, 5}, 0, api.ErrShort)
	wantTakeField(t, []byte{255, 255, 1}, 0, api.ErrShort)
	wantTakeField(t, []byte{0, 2, 5, 6}[:3], 0, api.ErrShort) // what lies behind the length is not part of the input
}

// P1.3

func TestJoinAndSplit(t *testing.T) {
	for _, c := range []struct {
		l [][]byte
		b []byte
	}{
		{nil, nil},
		{[][]byte{}, []byte{}},
		{[][]byte{{9}, {}}, []byte{0, 1, 9, 0, 0}},
		{[][]byte{{}, nil, {0}}, []byte{0, 0, 0, 0, 0, 1, 0}},
		{[][]byte{{5, 6}}, []byte{0, 2, 5, 6}},
		{[][]byte{[]byte("ab"), nil, []byte("c")}, []byte("\x00\x02ab\x00\x00\x00\x01c")},
		{[][]byte{{1}, {2}, {3}}, []byte{0, 1, 1, 0, 1, 2, 0, 1, 3}},
		{[][]byte{filled(300)}, append([]byte{1, 44}, filled(300)...)},
	} {
		if b, e := octet.Join(c.l); e != api.OK || !bytes.Equal(b, c.b) {
			t.Errorf("Join(%v) = %v, %d; want %v", c.l, b, int(e), c.b)
		}
		if l, e := octet.Split(c.b); e != api.OK || !equalLists(l, c.l) {
			t.Errorf("Split(%v) = %v, %d; want %v", c.b, l, int(e), c.l)
		}
	}
}

func TestJoinKeepsToLimits(t *testing.T) {
	for _, c := range []struct {
		name string
		l    [][]byte
		want api.Errno
	}{
		{"one of MaxText", [][]byte{filled(api.MaxText - 2)}, api.OK},
		{"one beyond MaxText", [][]byte{filled(api.MaxText - 1)}, api.ErrMany},
		{"two of MaxText", [][]byte{filled(1000), filled(api.MaxText - 1004)}, api.OK},
		{"two beyond MaxText", [][]byte{filled(1000), filled(api.MaxText - 1003)}, api.ErrMany},
		{"empty ones of MaxText", make([][]byte, api.MaxText/2), api.OK},
		{"empty ones beyond MaxText", make([][]byte, api.MaxText/2+1), api.ErrMany},
		{"very many empty ones", make([][]byte, 1<<20), api.ErrMany},
		{"full, then empty", [][]byte{filled(api.MaxText - 2), nil}, api.ErrMany},
		{"full, then almost empty", [][]byte{filled(api.MaxText - 4), nil}, api.OK},
		{"65,535 bytes", [][]byte{filled(65535)}, api.ErrMany},
		{"65,536 bytes", [][]byte{filled(65536)}, api.ErrMany},
		{"65,536 bytes at the end", [][]byte{{1}, {2}, filled(65536)}, api.ErrMany},
	} {
		b, e := octet.Join(c.l)
		if e != c.want {
			t.Errorf("%s: error %d; want %d", c.name, int(e), int(c.want))
		} else if e != api.OK && len(b) != 0 {
			t.Errorf("%s: %d bytes beside an error", c.name, len(b))
		} else if e == api.OK {
			if l, e := octet.Split(b); e != api.OK || !equalLists(l, c.l) {
				t.Errorf("%s: Split returns something else, %d", c.name, int(e))
			}
		}
	}
}

func wantSplit(t *testing.T, b []byte, want api.Errno) {
	t.Helper()
	if l, e := octet.Split(b); e != want || len(l) != 0 {
		t.Errorf("Split(%d bytes): %d elements, %d; want none, %d", len(b), len(l), int(e), int(want))
	}
}

func TestSplitKeepsToMaxText(t *testing.T) {
	l, e := octet.Split(make([]byte, api.MaxText))
	if e != api.OK || len(l) != api.MaxText/2 {
		t.Errorf("Split of MaxText zeros: %d elements, %d", len(l), int(e))
	}
	whole := join(t, [][]byte{filled(api.MaxText - 2)})
	if l, e := octet.Split(whole); e != api.OK || len(l) != 1 || !bytes.Equal(l[0], whole[2:]) {
		t.Errorf("Split of one field of MaxText bytes: %d elements, %d", len(l), int(e))
	}
	wantSplit(t, make([]byte, api.MaxText+1), api.ErrMany) // not a concatenation either: ErrMany is named first
	wantSplit(t, make([]byte, api.MaxText+2), api.ErrMany)
	wantSplit(t, append([]byte{255, 255}, filled(65535)...), api.ErrMany)
	wantSplit(t, make([]byte, api.MaxText-1), api.ErrShort)
}

func TestSplitRejectsShortInput(t *testing.T) {
	for _, b := range [][]byte{{0}, {1}, {0, 1}, {0, 0, 0}, {0, 1, 9, 0}, {0, 1, 9, 0, 1}, {0, 2, 5}, {1, 0, 5}, {255, 255}, {0, 1, 9, 255, 255, 1}, {0, 1, 0, 1}} {
		wantSplit(t, b, api.ErrShort)
	}
	b := join(t, [][]byte{{1, 2, 3}, {4, 5}})
	for n := range b {
		if n != 0 && n != 5 { // these end with a field
			wantSplit(t, b[:n], api.ErrShort)
		}
	}
}

// P1.4

func TestTakeReturnsWhatPutWrote(t *testing.T) {
	around := [][]byte{nil, {0}, {255}, {1, 2}, filled(9), bytes.Repeat([]byte{0, 255}, 20)}
	for size := 1; size <= 8; size++ {
		for _, n := range numbers(size) {
			for _, before := range around {
				b := put(t, before, n, size)
				if len(b) != len(before)+size || !bytes.Equal(b[:len(before)], before) {
					t.Fatalf("Put(%v, %d, %d) = %v", before, n, size, b)
				}
				for _, behind := range around {
					got, next, e := octet.Take(append(bytes.Clone(b), behind...), len(before), size)
					if e != api.OK || got != n || next != len(b) {
						t.Fatalf("Take of what Put(%v, %d, %d) wrote = %d, %d, %d", before, n, size, got, next, int(e))
					}
				}
			}
		}
	}
}

// numbers returns integers of all lengths that fit into size bytes.
func numbers(size int) []uint64 {
	l := []uint64{0}
	for bit := range 8 * size {
		l = append(l, 1<<bit, 1<<bit-1, most(size)-1<<bit, most(size)>>bit)
	}
	return l
}

func TestTakeFieldReturnsWhatPutFieldWrote(t *testing.T) {
	for _, before := range [][]byte{nil, {0}, {0, 1}, filled(7)} {
		for _, n := range []int{0, 1, 2, 255, 256, 300, 5000} {
			b, e := octet.PutField(before, filled(n))
			if e != api.OK {
				t.Fatal(int(e))
			}
			field, next, e := octet.TakeField(append(bytes.Clone(b), 0, 3), len(before))
			if e != api.OK || !bytes.Equal(field, filled(n)) || next != len(b) {
				t.Errorf("a field of %d bytes behind %d: %d bytes, %d, %d", n, len(before), len(field), next, int(e))
			}
		}
	}
}

// smallLists returns all lists of at most three strings of at most two of the bytes 0, 1 and 2, which are easily taken for lengths.
func smallLists() [][][]byte {
	strings := [][]byte{nil}
	for _, x := range []byte{0, 1, 2} {
		strings = append(strings, []byte{x})
		for _, y := range []byte{0, 1, 2} {
			strings = append(strings, []byte{x, y})
		}
	}
	all := [][][]byte{nil}
	for _, a := range strings {
		all = append(all, [][]byte{a})
		for _, b := range strings {
			all = append(all, [][]byte{a, b})
			for _, c := range strings {
				all = append(all, [][]byte{a, b, c})
			}
		}
	}
	return all
}

func TestDifferentListsNeverJoinAlike(t *testing.T) {
	seen := map[string]string{}
	for _, l := range smallLists() {
		b := join(t, l)
		if other, ok := seen[string(b)]; ok {
			t.Errorf("%v and %v both join to %v", other, l, b)
		}
		seen[string(b)] = fmt.Sprint(l)
		if back, e := octet.Split(b); e != api.OK || !equalLists(back, l) {
			t.Errorf("Split of the join of %v = %v, %d", l, back, int(e))
		}
	}
	if len(seen) != 1+13+13*13+13*13*13 {
		t.Errorf("%d lists", len(seen))
	}
}

// isJoined reports, read from the back to be independent of Split, whether b is a concatenation of fields.
func isJoined(b []byte) bool {
	ends := make([]bool, len(b)+1) // ends[i]: b[i:] is a concatenation
	ends[len(b)] = true
	for i := len(b) - 2; i >= 0; i-- {
		end := i + 2 + int(b[i])*256 + int(b[i+1])
		ends[i] = end <= len(b) && ends[end]
	}
	return ends[0]
}

func TestSplitTakesExactlyWhatIsJoined(t *testing.T) {
	level := [][]byte{nil}
	for range 8 {
		var longer [][]byte
		for _, b := range level {
			l, e := octet.Split(b)
			if !isJoined(b) {
				wantSplit(t, b, api.ErrShort)
			} else if e != api.OK || !bytes.Equal(join(t, l), b) {
				t.Errorf("Split(%v) = %v, %d", b, l, int(e))
			}
			for _, x := range []byte{0, 1, 2, 3} {
				longer = append(longer, append(bytes.Clone(b), x))
			}
		}
		level = longer
	}
}
