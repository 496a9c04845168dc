package seglog_test

import (
	"encoding/binary"
	"fmt"
	"hash/crc32"
	"math/rand"
	"slices"
	"strings"
	"testing"

	"towpath/api"
	"towpath/disk"
	"towpath/index"
	"towpath/rec"
	"towpath/seglog"
)

// The calls keep the signatures that the chapter lists.
var (
	_ func(string) bool                                                      = seglog.Prefix
	_ func(d *disk.Disk, p string, c seglog.Config) (*seglog.Log, api.Errno) = seglog.Open
	_ func(l *seglog.Log, bs ...api.Batch) (int64, api.Errno)                = (*seglog.Log).Append
	_ func(l *seglog.Log) api.Errno                                          = (*seglog.Log).Sync
	_ func(l *seglog.Log) api.Errno                                          = (*seglog.Log).Roll
	_ func(l *seglog.Log, offset int64) (int, api.Errno)                     = (*seglog.Log).Trim
	_ func(l *seglog.Log, upto int64, bs ...api.Batch) api.Errno             = (*seglog.Log).Replace
	_ func(l *seglog.Log, offset int64, most int) ([]api.Batch, api.Errno)   = (*seglog.Log).Read
	_ func(l *seglog.Log) []api.Batch                                        = (*seglog.Log).All
	_ func(l *seglog.Log, time int64) (int64, bool)                          = (*seglog.Log).After
	_ func(l *seglog.Log) int64                                              = (*seglog.Log).First
	_ func(l *seglog.Log) int64                                              = (*seglog.Log).Next
	_ func(l *seglog.Log) []int64                                            = (*seglog.Log).Segments
	_ struct{ Seg, Gap int }                                                 = seglog.Config{}
)

// small makes segments of two of the chapter's batches.
var small = seglog.Config{Seg: 64, Gap: 1}

func newDisk(t *testing.T) *disk.Disk {
	t.Helper()
	d, err := disk.New(1 << 16)
	if err != api.OK {
		t.Fatal("disk.New", err)
	}
	return d
}

func opened(t *testing.T, d *disk.Disk, c seglog.Config) *seglog.Log {
	t.Helper()
	l, err := seglog.Open(d, "p", c)
	if err != api.OK || l == nil {
		t.Fatalf("Open: %v, %d", l, err)
	}
	return l
}

func want(t *testing.T, what string, got, err api.Errno) {
	t.Helper()
	if got != err {
		t.Errorf("%s: %d, not %d", what, got, err)
	}
}

func numbers(t *testing.T, what string, got []int64, want ...int64) {
	t.Helper()
	if !slices.Equal(got, want) {
		t.Errorf("%s: %v, not %v", what, got, want)
	}
}

// plain is a batch whose frame has 19 bytes and those of its texts.
func plain(key, value string) api.Batch {
	return api.Batch{L: []api.Record{{Key: key, Value: value}}}
}

// at is a plain batch with n records from an offset on.
func at(base int64, n int) api.Batch {
	b := api.Batch{Base: base}
	for range n {
		b.L = append(b.L, api.Record{Key: "k", Value: "v"})
	}
	return b
}

// timed is a plain batch with records of these times.
func timed(times ...int64) api.Batch {
	b := api.Batch{Time: 7}
	for _, time := range times {
		b.L = append(b.L, api.Record{Key: "k", Time: time})
	}
	return b
}

// filled is a log of the segments 0, 2, 4, 6 and so on, with two batches of one record each, the last one with one.
func filled(t *testing.T, n int) (*disk.Disk, *seglog.Log) {
	t.Helper()
	d := newDisk(t)
	l := opened(t, d, small)
	for i := range n {
		if offset, err := l.Append(plain("a", "x")); offset != int64(i) || err != api.OK {
			t.Fatalf("Append: %d, %d", offset, err)
		}
	}
	return d, l
}

// framed makes a frame by the library's checksum.
func framed(body []byte) []byte {
	b := binary.LittleEndian.AppendUint32(nil, uint32(len(body)))
	b = append(b, body...)
	return binary.LittleEndian.AppendUint32(b, crc32.ChecksumIEEE(b))
}

// head makes a header by the library's numbers.
func head(base, end uint64) []byte {
	return framed(binary.AppendUvarint(binary.AppendUvarint([]byte{83}, base), end))
}

// body encodes a batch.
func body(b api.Batch) []byte {
	raw, err := rec.Encode(b)
	if err != api.OK {
		panic(fmt.Sprint(b, err))
	}
	return framed(raw)
}

func fileName(prefix string, base int64) string { return fmt.Sprintf("%s-%011x.log", prefix, base) }

func isMarker(b api.Batch) bool { return b.Kind == api.Commit || b.Kind == api.Abort }

func latest(b api.Batch) int64 {
	if isMarker(b) {
		return b.Time
	}
	return slices.MaxFunc(b.L, func(a, b api.Record) int { return int(a.Time - b.Time) }).Time
}

// mseg and model say once more what a log is: segments as lists of batches, from which everything is counted anew.
type mseg struct {
	base, end int64
	l         []api.Batch
}

func (s mseg) bytes() []byte {
	b := head(uint64(s.base), uint64(s.end))
	for _, batch := range s.l {
		b = append(b, body(batch)...)
	}
	return b
}

func (s mseg) next() int64 {
	n := max(s.base, s.end)
	for _, b := range s.l {
		n = max(n, rec.Next(b))
	}
	return n
}

type model struct {
	seglog.Config
	segs []mseg
}

func (m *model) copy() *model {
	c := &model{Config: m.Config}
	for _, s := range m.segs {
		c.segs = append(c.segs, mseg{s.base, s.end, slices.Clone(s.l)})
	}
	return c
}

func (m *model) first() int64 {
	if len(m.segs) == 0 {
		return 0
	}
	return m.segs[0].base
}

func (m *model) next() int64 {
	if len(m.segs) == 0 {
		return 0
	}
	return m.segs[len(m.segs)-1].next()
}

func (m *model) bases() []int64 {
	var l []int64
	for _, s := range m.segs {
		l = append(l, s.base)
	}
	return l
}

func (m *model) all() []api.Batch {
	var l []api.Batch
	for _, s := range m.segs {
		l = append(l, s.l...)
	}
	return l
}

func (m *model) append(bs ...api.Batch) (int64, api.Errno) {
	if len(bs) == 0 {
		return 0, api.ErrNone
	}
	first := m.next()
	next := first
	var placed []api.Batch
	size := 0
	for _, b := range bs {
		b = rec.Copy(b)
		b.Base = next
		if err := rec.Valid(b); err != api.OK {
			return 0, err
		}
		placed = append(placed, b)
		size += rec.Size(b) + 8
		next = rec.Next(b)
	}
	n := len(m.segs)
	if n == 0 || len(m.segs[n-1].l) > 0 && len(m.segs[n-1].bytes())+size > m.Seg {
		m.segs = append(m.segs, mseg{base: first})
		n++
	}
	m.segs[n-1].l = append(m.segs[n-1].l, placed...)
	return first, api.OK
}

func (m *model) roll() api.Errno {
	if n := len(m.segs); n == 0 || len(m.segs[n-1].l) == 0 {
		return api.ErrNone
	}
	m.segs = append(m.segs, mseg{base: m.next()})
	return api.OK
}

func (m *model) trim(offset int64) int {
	n := 0
	for len(m.segs) > 1 && m.segs[1].base <= offset {
		m.segs = m.segs[1:]
		n++
	}
	return n
}

func (m *model) replace(upto int64, bs ...api.Batch) api.Errno {
	n := slices.Index(m.bases(), upto)
	free := m.first()
	for _, b := range bs {
		if rec.Valid(b) != api.OK || b.Base < free {
			return api.ErrArg
		}
		free = rec.Next(b)
	}
	if n < 1 || free > upto {
		return api.ErrArg
	}
	s := mseg{base: m.first(), end: upto}
	for _, b := range bs {
		s.l = append(s.l, rec.Copy(b))
	}
	m.segs = append([]mseg{s}, m.segs[n:]...)
	return api.OK
}

func (m *model) read(offset int64, most int) ([]api.Batch, api.Errno) {
	if most < 1 {
		return nil, api.ErrArg
	}
	if offset < m.first() || offset > m.next() {
		return nil, api.ErrRange
	}
	var l []api.Batch
	for _, b := range m.all() {
		if rec.Next(b)-1 < offset || len(l) == most {
			continue
		}
		if len(l) == 0 {
			b, _ = rec.From(b, offset)
		}
		l = append(l, b)
	}
	return l, api.OK
}

func (m *model) after(time int64) string {
	for _, s := range m.segs {
		reaches := func(b api.Batch) bool { return latest(b) >= time }
		if time < 0 || !slices.ContainsFunc(s.l, reaches) {
			continue
		}
		x, _ := index.New(m.Gap)
		place := len(head(uint64(s.base), uint64(s.end)))
		for _, b := range s.l {
			x.Note(b.Base, place, latest(b))
			place += rec.Size(b) + 8
		}
		e, _ := x.After(time)
		return fmt.Sprint(e.Offset, true)
	}
	return fmt.Sprint(0, false)
}

func sameBatches(a, b []api.Batch) bool { return slices.EqualFunc(a, b, rec.Same) }

// shown tells all that a log shows, but for times.
func shown(l *seglog.Log) string {
	return fmt.Sprint(l.Segments(), l.First(), l.Next(), l.All())
}

// content tells the files of a disk whose names begin so.
func content(d *disk.Disk, prefix string) string {
	var s strings.Builder
	for _, name := range d.Names(prefix) {
		b, _ := d.Read(name)
		fmt.Fprintf(&s, "%s=%x ", name, b)
	}
	return s.String()
}

func (m *model) content(prefix string) string {
	var s strings.Builder
	for _, seg := range m.segs {
		fmt.Fprintf(&s, "%s=%x ", fileName(prefix, seg.base), seg.bytes())
	}
	return s.String()
}

// agrees holds what a log tells, and its files, against a model.
func agrees(t *testing.T, what string, d *disk.Disk, l *seglog.Log, m *model) {
	t.Helper()
	tells(t, what, l, m)
	if got, want := content(d, "p-"), m.content("p"); got != want {
		t.Errorf("%s: the files are %s, not %s", what, got, want)
	}
}

// tells holds what a log tells against a model: everywhere, and at all edges.
func tells(t *testing.T, what string, l *seglog.Log, m *model) {
	t.Helper()
	holds(t, what, l, m)
	offsets := []int64{m.first() - 1, m.first(), m.next() - 1, m.next(), m.next() + 1}
	times := []int64{-1, 0, 1, 1 << 40}
	for _, b := range m.all() {
		offsets = append(offsets, b.Base, b.Base+1, rec.Next(b)-1)
		times = append(times, latest(b), latest(b)+1)
	}
	for _, offset := range offsets {
		for _, most := range []int{0, 1, 2, 1000} {
			got, err := l.Read(offset, most)
			want, werr := m.read(offset, most)
			if err != werr || !sameBatches(got, want) {
				t.Errorf("%s: Read(%d, %d): %v, %d, not %v, %d", what, offset, most, got, err, want, werr)
			}
		}
	}
	for _, time := range times {
		if got := fmt.Sprint(l.After(time)); got != m.after(time) {
			t.Errorf("%s: After(%d): %s, not %s", what, time, got, m.after(time))
		}
	}
	walks(t, what, l)
}

// holds holds a log's offsets and batches against a model.
func holds(t *testing.T, what string, l *seglog.Log, m *model) {
	t.Helper()
	if got := l.Segments(); !slices.Equal(got, m.bases()) || l.First() != m.first() || l.Next() != m.next() {
		t.Errorf("%s: segments %v, from %d to %d, not %v, %d, %d", what, got, l.First(), l.Next(), m.bases(), m.first(), m.next())
	}
	if got := l.All(); !sameBatches(got, m.all()) {
		t.Errorf("%s: All: %v, not %v", what, got, m.all())
	}
}

// walks: P6.9, from offset to offset, one batch at a time and two.
func walks(t *testing.T, what string, l *seglog.Log) {
	t.Helper()
	for _, most := range []int{1, 2} {
		var all []api.Batch
		for offset := l.First(); ; {
			bs, err := l.Read(offset, most)
			if err != api.OK {
				t.Fatalf("%s: Read(%d, %d): %d", what, offset, most, err)
			}
			if len(bs) == 0 {
				break
			}
			all = append(all, bs...)
			offset = rec.Next(bs[len(bs)-1])
		}
		if !sameBatches(all, l.All()) {
			t.Errorf("%s: read from offset to offset: %v, not %v", what, all, l.All())
		}
	}
}

func pick[T any](rnd *rand.Rand, l ...T) T { return l[rnd.Intn(len(l))] }

// someBatch is a valid batch of any kind.
func someBatch(rnd *rand.Rand) api.Batch {
	b := api.Batch{Base: pick[int64](rnd, 0, 5, -1), Time: int64(rnd.Intn(30))}
	if rnd.Intn(2) == 0 {
		b.Pid, b.Epoch, b.Kind = int64(1+rnd.Intn(200)), rnd.Intn(3), rnd.Intn(4)
	}
	if isMarker(b) {
		return b
	}
	if b.Pid > 0 {
		b.Seq = rnd.Intn(300)
	}
	for range 1 + rnd.Intn(3) {
		r := api.Record{Key: pick(rnd, "", "a", "ab", "b"), Time: int64(rnd.Intn(30)), Gone: rnd.Intn(4) == 0}
		if !r.Gone {
			r.Value = pick(rnd, "", "x", strings.Repeat("y", rnd.Intn(60)))
		}
		b.L = append(b.L, r)
	}
	return b
}

func someBatches(rnd *rand.Rand) []api.Batch {
	var l []api.Batch
	for range 1 + rnd.Intn(3) {
		l = append(l, someBatch(rnd))
	}
	return l
}
