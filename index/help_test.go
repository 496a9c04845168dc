package index_test

import (
	"encoding/binary"
	"fmt"
	"hash/crc32"
	"slices"
	"testing"

	"towpath/api"
	"towpath/index"
)

// The calls keep the signatures that the chapter lists.
var (
	_ func(int) (*index.Index, api.Errno)             = index.New
	_ func([]byte) (*index.Index, api.Errno)          = index.Load
	_ func(*index.Index, int64, int, int64) api.Errno = (*index.Index).Note
	_ func(*index.Index, int64) api.Errno             = (*index.Index).Cut
	_ func(*index.Index, int64) (index.Entry, bool)   = (*index.Index).Find
	_ func(*index.Index, int64) (index.Entry, bool)   = (*index.Index).After
	_ func(*index.Index) []index.Entry                = (*index.Index).All
	_ func(*index.Index) int                          = (*index.Index).Len
	_ func(*index.Index) int                          = (*index.Index).Gap
	_ func(*index.Index) []byte                       = (*index.Index).Bytes
	_ struct {
		Offset int64
		Place  int
		Before int64
	} = index.Entry{}
)

func made(t *testing.T, gap int) *index.Index {
	t.Helper()
	x, err := index.New(gap)
	if err != api.OK || x == nil {
		t.Fatalf("New(%d): %v, %d", gap, x, err)
	}
	return x
}

func want(t *testing.T, what string, got, err api.Errno) {
	t.Helper()
	if got != err {
		t.Errorf("%s: %d, not %d", what, got, err)
	}
}

func entries(t *testing.T, what string, x *index.Index, want ...index.Entry) {
	t.Helper()
	if got := x.All(); !slices.Equal(got, want) || x.Len() != len(want) {
		t.Errorf("%s: %v (Len %d), not %v", what, got, x.Len(), want)
	}
}

// same holds all that a call can tell of two indexes against each other.
func same(t *testing.T, what string, x, y *index.Index) {
	t.Helper()
	if string(x.Bytes()) != string(y.Bytes()) || x.Gap() != y.Gap() || !slices.Equal(x.All(), y.All()) {
		t.Errorf("%s: %v of %x, %v of %x", what, x.All(), x.Bytes(), y.All(), y.Bytes())
	}
}

// found tells a result of Find and After.
func found(e index.Entry, ok bool) string { return fmt.Sprint(e, ok) }

// state is what Bytes tells, or what is forged.
type state struct {
	gap           int
	entries       []index.Entry
	offset, place int64
	latest        int64
}

// body encodes a state by the library's numbers, with the differences as they come, even below 0.
func (s state) body() []byte {
	b := binary.AppendUvarint(nil, uint64(s.gap))
	b = binary.AppendUvarint(b, uint64(len(s.entries)))
	var last index.Entry
	for _, e := range s.entries {
		b = binary.AppendUvarint(b, uint64(e.Offset-last.Offset))
		b = binary.AppendUvarint(b, uint64(e.Place-last.Place))
		b = binary.AppendVarint(b, e.Before)
		last = e
	}
	b = binary.AppendVarint(b, s.offset)
	b = binary.AppendVarint(b, s.place)
	return binary.AppendVarint(b, s.latest)
}

// sealed makes a frame by the library's checksum.
func sealed(body []byte) []byte {
	b := binary.LittleEndian.AppendUint32(nil, uint32(len(body)))
	b = append(b, body...)
	return binary.LittleEndian.AppendUint32(b, crc32.ChecksumIEEE(b))
}

// batch is what is noted.
type batch struct {
	offset int64
	place  int
	time   int64
	entry  bool
	before int64 // the greatest of all times ever noted ahead of it
}

// model is an index that keeps each batch that is noted and not cut, and the time of each that ever was.
type model struct {
	gap   int
	l     []batch
	times []int64
}

func within(n, most int64) bool { return n >= 0 && n <= most }

func (m *model) latest() int64 { return slices.Max(append([]int64{-1}, m.times...)) }

func (m *model) note(offset int64, place int, time int64) api.Errno {
	if !within(offset, 1<<40) || !within(int64(place), 1<<22) || !within(time, 1<<40) {
		return api.ErrArg
	}
	b := batch{offset, place, time, true, m.latest()}
	for _, other := range m.l {
		if other.offset >= offset || other.place >= place {
			return api.ErrOrder
		}
		if other.entry && place < other.place+m.gap {
			b.entry = false
		}
	}
	m.l = append(m.l, b)
	m.times = append(m.times, time)
	return api.OK
}

func (m *model) cut(offset int64) api.Errno {
	if !within(offset, 1<<40) {
		return api.ErrArg
	}
	m.l = slices.DeleteFunc(m.l, func(b batch) bool { return b.entry && b.offset >= offset })
	for len(m.l) > 0 && !m.l[len(m.l)-1].entry {
		m.l = m.l[:len(m.l)-1]
	}
	return api.OK
}

func (m *model) all() []index.Entry {
	var l []index.Entry
	for _, b := range m.l {
		if b.entry {
			l = append(l, index.Entry{Offset: b.offset, Place: b.place, Before: b.before})
		}
	}
	return l
}

func (m *model) state() state {
	s := state{m.gap, m.all(), -1, -1, m.latest()}
	if n := len(m.l); n > 0 {
		s.offset, s.place = m.l[n-1].offset, int64(m.l[n-1].place)
	}
	return s
}

// lastOf returns the last entry for which ok holds.
func (m *model) lastOf(ok func(index.Entry) bool) string {
	l := m.all()
	for i := len(l) - 1; i >= 0; i-- {
		if ok(l[i]) {
			return found(l[i], true)
		}
	}
	return found(index.Entry{}, false)
}
