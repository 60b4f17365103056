// Package field writes and reads records: fields with numbers, one behind the other.
package field

import (
	"bytes"

	"drover/api"
)

// A number stands in groups of its bits, one to a byte.
const (
	width = 7    // bits of a group
	low   = 0x7f // a byte's bits that are the group
	more  = 0x80 // the bit that says that another group follows
	tenth = 9    // the place of the tenth group, for which 64 bits leave just one
)

const maxNum = 1000

// Field is a field of a record: a number V or, with Text, the bytes B.
type Field struct {
	Num  int
	Text bool
	V    uint64
	B    []byte
}

// Uint: b, and v behind it.
func Uint(b []byte, v uint64) []byte {
	room := make([]byte, 0, len(b)+tenth+1)
	return put(append(room, b...), v)
}

// put: v behind b, in b's own room, so that a long record is not copied for each of its numbers.
func put(b []byte, v uint64) []byte {
cut:
	for {
		group := byte(v & low)
		v >>= width
		switch v {
		case 0:
			b = append(b, group)
			break cut
		default:
			b = append(b, group|more)
		}
	}
	return b
}

// GetUint: the number that b begins with, and how many bytes it has.
func GetUint(b []byte) (uint64, int) {
	v, n, _ := get(b)
	return v, n
}

// get is GetUint, and says why there is no number: a reader of records tells apart what only ends too early.
func get(b []byte) (uint64, int, api.Errno) {
	v, n := uint64(0), 0
cut:
	for i, c := range b {
		v |= uint64(c&low) << (width * i)
		switch {
		case i == tenth && c > 1, i > 0 && c == 0:
			return 0, 0, api.ErrBad
		case c < more:
			n = i + 1
			break cut
		}
	}
	if n == 0 {
		return 0, 0, api.ErrShort
	}
	return v, n, api.OK
}

// Zig: n as a number without a sign, small if n is near 0.
func Zig(n int) uint64 {
	if n < 0 {
		return uint64(^n)<<1 | 1 // ^n is -n - 1, which is there for the least int too
	}
	return uint64(n) << 1
}

// Zag: the n of which Zig is v.
func Zag(v uint64) int {
	n := int(v >> 1)
	if v&1 == 1 {
		return ^n
	}
	return n
}

// Write: the good ones of l as a record.
func Write(l []Field) []byte {
	return record(l...)
}

func record(l ...Field) []byte {
	var b []byte
	for _, f := range l {
		if !Good(f) {
			continue
		}
		key := uint64(f.Num) << 1
		if f.Text {
			b = put(b, key|1)
			b = put(b, uint64(len(f.B)))
			b = append(b, f.B...)
		} else {
			b = put(b, key)
			b = put(b, f.V)
		}
	}
	return b
}

// Read: the fields of the record b.
func Read(b []byte) ([]Field, api.Errno) {
	var l []Field
	for len(b) > 0 {
		f, n, err := first(b)
		if err != api.OK {
			return nil, err
		}
		l = append(l, f)
		b = b[n:]
	}
	return l, api.OK
}

// first: the field that b begins with, and how many bytes it has.
func first(b []byte) (Field, int, api.Errno) {
	key, n, err := get(b)
	if err != api.OK {
		return Field{}, 0, err
	}
	if num := key >> 1; num < 1 || num > maxNum {
		return Field{}, 0, api.ErrBad
	}
	v, size, err := get(b[n:])
	if err != api.OK {
		return Field{}, 0, err
	}
	n += size
	f := Field{Num: int(key >> 1), Text: key&1 == 1}
	if !f.Text {
		f.V = v
		return f, n, api.OK
	}
	if v > uint64(len(b)-n) { // held against what is left ahead of the cut to an int, which it may not fit
		return Field{}, 0, api.ErrShort
	}
	end := n + int(v)
	f.B = bytes.Clone(b[n:end])
	return f, end, api.OK
}

// Good: may f stand in a record?
func Good(f Field) bool {
	if f.Num < 1 || f.Num > maxNum {
		return false
	}
	if f.Text {
		return f.V == 0
	}
	return len(f.B) == 0
}

// Find: the last field of that number.
func Find(l []Field, num int) (Field, bool) {
	for i := len(l) - 1; i >= 0; i-- {
		if f := l[i]; f.Num == num {
			f.B = bytes.Clone(f.B)
			return f, true
		}
	}
	return Field{}, false
}
