package wire

import (
	"slices"

	"towpath/api"
)

// Reader decodes bytes, one element after the other. The first error stops it for good, so a caller may decode all elements and ask once, at the end.
type Reader struct {
	position
	err api.Errno
}

// NewReader returns a reader at the beginning of b. It reads a copy: the caller may write into b later.
func NewReader(b []byte) *Reader {
	return &Reader{position: position{bytes: slices.Clone(b)}}
}

// next decodes one element: it alone decides whether a reader goes on, and takes it back where the element can't be decoded.
func next[T any](r *Reader, decode func() (T, api.Errno)) T {
	var zero T
	if r == nil || r.err != api.OK {
		return zero
	}
	start := r.position
	v, err := decode()
	if err != api.OK {
		r.position, r.err = start, err
		return zero
	}
	return v
}

// Uint decodes an unsigned number.
func (r *Reader) Uint() uint64 {
	return next(r, func() (uint64, api.Errno) { return r.unsigned() })
}

// Int decodes a signed number.
func (r *Reader) Int() int64 {
	return next(r, func() (int64, api.Errno) { return r.signed() })
}

// Within decodes a signed number from lo to hi.
func (r *Reader) Within(lo, hi int64) int64 {
	return next(r, func() (int64, api.Errno) { return r.within(lo, hi) })
}

// Text decodes a string of at most most bytes.
func (r *Reader) Text(most int) string {
	return next(r, func() (string, api.Errno) { return r.text(most) })
}

// Flag decodes a flag.
func (r *Reader) Flag() bool {
	return next(r, func() (bool, api.Errno) { return r.flag() })
}

// Byte decodes one byte.
func (r *Reader) Byte() int {
	return next(r, func() (int, api.Errno) { return r.octet() })
}

// Bytes decodes n bytes.
func (r *Reader) Bytes(n int) []byte {
	return next(r, func() ([]byte, api.Errno) { return r.run(n) })
}

// Texts decodes a list of at most count strings, of at most most bytes each.
func (r *Reader) Texts(count, most int) []string {
	return next(r, func() ([]string, api.Errno) {
		return list(&r.position, count, func() (string, api.Errno) { return r.text(most) })
	})
}

// Ints decodes a list of at most count signed numbers.
func (r *Reader) Ints(count int) []int64 {
	return next(r, func() ([]int64, api.Errno) {
		return list(&r.position, count, func() (int64, api.Errno) { return r.signed() })
	})
}

// Rest returns all that is left.
func (r *Reader) Rest() []byte {
	return next(r, func() ([]byte, api.Errno) { return r.run(r.left()) })
}

// End returns the error that was met: bytes that are left are one.
func (r *Reader) End() api.Errno {
	if r.Err() == api.OK && r.left() > 0 {
		r.err = api.ErrForm
	}
	return r.Err()
}

// At returns how many bytes have been read. It isn't promoted itself, nor is Left: the position of a nil reader can't be asked.
func (r *Reader) At() int {
	if r == nil {
		return 0
	}
	return r.passed()
}

// Left returns how many bytes are left.
func (r *Reader) Left() int {
	if r == nil {
		return 0
	}
	return r.left()
}

// Err returns the first error, or OK.
func (r *Reader) Err() api.Errno {
	if r == nil {
		return api.ErrNil
	}
	return r.err
}
