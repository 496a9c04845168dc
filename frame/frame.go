// Package frame is layer 2: checksums, and byte strings that stand whole or not at all. See shared/doc/02-frame.md.
package frame

import (
	"slices"

	"towpath/api"
)

const (
	wordSize = 4            // bytes of a length, and of a checksum
	around   = 2 * wordSize // what a frame has beside its body
)

// Seal returns the frame of the body that consists of all parts, or no bytes if that is longer than a frame may hold.
func Seal(parts ...[]byte) []byte {
	n := 0
	for _, p := range parts {
		n += len(p)
		if n > api.MaxBody {
			return nil
		}
	}
	b := addWord(make([]byte, 0, n+around), uint32(n))
	for _, p := range parts {
		b = append(b, p...)
	}
	return addWord(b, Sum(b))
}

// Open returns the body of b, if b is one frame and nothing else.
func Open(b []byte) ([]byte, bool) {
	n := size(b)
	if n == 0 || n != len(b) {
		return nil, false
	}
	return body(b, n), true
}

// First returns the body and the length of the frame with which b begins.
func First(b []byte) ([]byte, int, bool) {
	n := size(b)
	if n == 0 {
		return nil, 0, false
	}
	return body(b, n), n, true
}

// Scan returns the bodies of the frames with which b begins, up to the first bytes that are no frame, and the length of all these frames.
func Scan(b []byte) ([][]byte, int) {
	var l [][]byte
	at := 0
	for n := size(b); n > 0; n = size(b[at:]) {
		l = append(l, body(b[at:], n))
		at += n
	}
	return l, at
}

// size returns the length of the frame with which b begins, or 0 if it begins with none. The length is held against MaxBody as it is read, ahead of anything that could overflow.
func size(b []byte) int {
	if len(b) < around {
		return 0
	}
	long := word(b)
	if long > api.MaxBody || int(long) > len(b)-around {
		return 0
	}
	end := wordSize + int(long)
	if Sum(b[:end]) != word(b[end:]) {
		return 0
	}
	return int(long) + around
}

// body returns a copy, as the results of a call must share no memory with its argument.
func body(b []byte, size int) []byte {
	return slices.Clone(b[wordSize : size-wordSize])
}

func addWord(b []byte, w uint32) []byte {
	return append(b, byte(w), byte(w>>8), byte(w>>16), byte(w>>24))
}

func word(b []byte) uint32 {
	return uint32(b[0]) | uint32(b[1])<<8 | uint32(b[2])<<16 | uint32(b[3])<<24
}
