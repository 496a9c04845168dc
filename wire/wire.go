// Package wire is layer 1: numbers, strings and lists as bytes. See shared/doc/01-wire.md.
package wire

import "slices"

// Uint encodes an unsigned number.
func Uint(n uint64) []byte { return addUint(nil, n) }

// Int encodes a signed number.
func Int(n int64) []byte { return addInt(nil, n) }

// Text encodes a string.
func Text(s string) []byte { return addText(nil, s) }

// Flag encodes a flag.
func Flag(on bool) []byte {
	if on {
		return []byte{1}
	}
	return []byte{0}
}

// Join puts parts that are encoded one behind the other.
func Join(parts ...[]byte) []byte { return slices.Concat(parts...) }

// Texts encodes a list of strings.
func Texts(l ...string) []byte {
	b := Uint(uint64(len(l)))
	for _, s := range l {
		b = addText(b, s)
	}
	return b
}

// Ints encodes a list of signed numbers.
func Ints(l ...int64) []byte {
	b := Uint(uint64(len(l)))
	for _, n := range l {
		b = addInt(b, n)
	}
	return b
}

func addUint(b []byte, n uint64) []byte {
	for n >= more {
		b = append(b, byte(n)|more)
		n >>= groupBits
	}
	return append(b, byte(n))
}

// addInt folds the sign into the lowest bit, so that numbers near 0 are short on both sides of it.
func addInt(b []byte, n int64) []byte {
	return addUint(b, uint64(n)<<1^uint64(n>>63))
}

func addText(b []byte, s string) []byte {
	return append(addUint(b, uint64(len(s))), s...)
}
