package wire

import "towpath/api"

// How a number is laid out: in groups of bits, with a bit in each byte that says whether another one follows.
const (
	groupBits = 7
	groups    = 10 // of the longest number
	more      = 1 << groupBits
)

// position is a place in bytes. Its methods decode what begins there and move behind it. One that fails may stop anywhere: who calls it has to know where it began.
type position struct {
	bytes []byte
	at    int
}

func (p *position) passed() int { return p.at }

func (p *position) left() int { return len(p.bytes) - p.at }

// cut returns the next n bytes as they lie there, for a caller that copies them.
func (p *position) cut(n int) []byte {
	b := p.bytes[p.at : p.at+n]
	p.at += n
	return b
}

func (p *position) octet() (int, api.Errno) {
	if p.left() == 0 {
		return 0, api.ErrForm
	}
	return int(p.cut(1)[0]), api.OK
}

func (p *position) flag() (bool, api.Errno) {
	b, err := p.octet()
	if err == api.OK && b > 1 {
		err = api.ErrForm
	}
	return b == 1, err
}

func (p *position) unsigned() (uint64, api.Errno) {
	var n uint64
	for i := range groups {
		b, err := p.octet()
		if err != api.OK {
			return 0, err
		}
		n |= uint64(b%more) << (groupBits * i)
		if b < more {
			return n, lastGroup(i, b)
		}
	}
	return 0, api.ErrForm
}

// lastGroup tells whether a number may end with this group: a 0 there would be a second encoding of a shorter number, and the tenth group has room for one bit only.
func lastGroup(i, group int) api.Errno {
	if i > 0 && group == 0 || i == groups-1 && group > 1 {
		return api.ErrForm
	}
	return api.OK
}

func (p *position) signed() (int64, api.Errno) {
	n, err := p.unsigned()
	return int64(n>>1) ^ -int64(n&1), err
}

func (p *position) within(lo, hi int64) (int64, api.Errno) {
	n, err := p.signed()
	if err == api.OK && (n < lo || n > hi) {
		err = api.ErrRange
	}
	return n, err
}

// size decodes how many bytes or elements follow.
func (p *position) size(most int) (uint64, api.Errno) {
	n, err := p.unsigned()
	if err == api.OK && n > uint64(max(most, 0)) {
		err = api.ErrLong
	}
	return n, err
}

func (p *position) text(most int) (string, api.Errno) {
	n, err := p.size(most)
	if err != api.OK {
		return "", err
	}
	if n > uint64(p.left()) {
		return "", api.ErrForm
	}
	return string(p.cut(int(n))), api.OK
}

func (p *position) run(n int) ([]byte, api.Errno) {
	if n < 0 {
		return nil, api.ErrArg
	}
	if n > p.left() {
		return nil, api.ErrForm
	}
	return append([]byte(nil), p.cut(n)...), api.OK
}

// list decodes a list of what element decodes. Its memory grows by what has been decoded and not by the size that stands ahead, which may be any number.
func list[T any](p *position, count int, element func() (T, api.Errno)) ([]T, api.Errno) {
	n, err := p.size(count)
	if err != api.OK {
		return nil, err
	}
	var l []T
	for range n {
		v, err := element()
		if err != api.OK {
			return nil, err
		}
		l = append(l, v)
	}
	return l, api.OK
}
