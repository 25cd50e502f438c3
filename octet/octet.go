// Package octet is layer 1: encoding of integers and byte strings. See shared/doc/01-octet.md.
package octet

import (
	"iter"

	"suffrage/api"
)

const (
	maxSize    = 8         // bytes of the longest encoding of an integer
	lengthSize = 2         // bytes of the length of a field
	maxField   = 1<<16 - 1 // the greatest length that lengthSize bytes hold
)

// Put implements P1.1.
func Put(b []byte, n uint64, size int) ([]byte, api.Errno) {
	if !isSize(size) || !fits(n, size) {
		return nil, api.ErrArg
	}
	if len(b) > api.MaxText-size {
		return nil, api.ErrMany
	}
	return appendInteger(copyOf(b, size), n, size), api.OK
}

// Take implements P1.1.
func Take(b []byte, at, size int) (n uint64, next int, e api.Errno) {
	if !isSize(size) || at < 0 || at > len(b) {
		return 0, 0, api.ErrArg
	}
	if len(b)-at < size {
		return 0, 0, api.ErrShort
	}
	for i := range size {
		n = n<<8 | uint64(b[at+i])
	}
	return n, at + size, api.OK
}

// PutField implements P1.2.
func PutField(b, field []byte) ([]byte, api.Errno) {
	if !hasRoom(len(b), field) {
		return nil, api.ErrMany
	}
	return appendField(copyOf(b, lengthSize+len(field)), field), api.OK
}

// TakeField implements P1.2.
func TakeField(b []byte, at int) (field []byte, next int, e api.Errno) {
	length, start, e := Take(b, at, lengthSize)
	if e != api.OK {
		return nil, 0, e
	}
	if uint64(len(b)-start) < length {
		return nil, 0, api.ErrShort
	}
	next = start + int(length)
	return copyOf(b[start:next], 0), next, api.OK
}

// Split implements P1.3.
func Split(b []byte) ([][]byte, api.Errno) {
	if len(b) > api.MaxText {
		return nil, api.ErrMany
	}
	var l [][]byte
	for field, e := range fields(b) {
		if e != api.OK {
			return nil, e
		}
		l = append(l, field)
	}
	return l, api.OK
}

// Join implements P1.3.
func Join(l [][]byte) ([]byte, api.Errno) {
	size := 0
	for _, field := range l {
		if !hasRoom(size, field) {
			return nil, api.ErrMany
		}
		size += lengthSize + len(field)
	}
	b := make([]byte, 0, size)
	for _, field := range l {
		b = appendField(b, field)
	}
	return b, api.OK
}

// fields yields the fields of b in order. Where b does not go on with a field, it yields the error and ends.
func fields(b []byte) iter.Seq2[[]byte, api.Errno] {
	return func(yield func([]byte, api.Errno) bool) {
		for at := 0; at < len(b); {
			field, next, e := TakeField(b, at)
			if !yield(field, e) || e != api.OK {
				return
			}
			at = next
		}
	}
}

func isSize(size int) bool { return 1 <= size && size <= maxSize }

// fits reports whether n fits into size bytes. Every n fits into 8, because shifting it by 64 leaves 0.
func fits(n uint64, size int) bool { return n>>(8*size) == 0 }

// hasRoom reports whether used bytes may be followed by field as a field. It subtracts where adding could overflow, and it checks maxField, which MaxText implies, because a longer length would be cut off without a trace.
func hasRoom(used int, field []byte) bool {
	return len(field) <= maxField && used <= api.MaxText-lengthSize-len(field)
}

// copyOf returns a copy of b with room for more bytes behind it: a caller's slice must never be appended to, because that would write into its capacity.
func copyOf(b []byte, more int) []byte {
	return append(make([]byte, 0, len(b)+more), b...)
}

func appendInteger(b []byte, n uint64, size int) []byte {
	for i := range size {
		b = append(b, byte(n>>(8*(size-1-i))))
	}
	return b
}

func appendField(b, field []byte) []byte {
	return append(appendInteger(b, uint64(len(field)), lengthSize), field...)
}
