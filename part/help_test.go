package part_test

import (
	"encoding/binary"
	"fmt"
	"hash/crc32"
	"math/rand"
	"slices"
	"strconv"
	"strings"
	"testing"

	"towpath/api"
	"towpath/compact"
	"towpath/dedup"
	"towpath/disk"
	"towpath/iso"
	"towpath/part"
	"towpath/rec"
	"towpath/seglog"
)

// The calls keep the signatures that the chapter lists.
var (
	_ func(*disk.Disk, string, part.Config) (*part.Part, api.Errno)           = part.Open
	_ func(*part.Part, api.Batch) (int64, bool, api.Errno)                    = (*part.Part).Append
	_ func(*part.Part, int64, int, bool, int64) (int64, bool, api.Errno)      = (*part.Part).Mark
	_ func(*part.Part, api.Batch) (bool, api.Errno)                           = (*part.Part).Ask
	_ func(p *part.Part, o int64, n int, c bool) ([]rec.At, int64, api.Errno) = (*part.Part).Read
	_ func(*part.Part) int64                                                  = (*part.Part).First
	_ func(*part.Part) int64                                                  = (*part.Part).Next
	_ func(*part.Part) int64                                                  = (*part.Part).Stable
	_ func(*part.Part) []api.Batch                                            = (*part.Part).Batches
	_ func(*part.Part) api.Errno                                              = (*part.Part).Snapshot
	_ func(*part.Part, int64) (int, api.Errno)                                = (*part.Part).Expire
	_ func(*part.Part, int64) (int, api.Errno)                                = (*part.Part).Compact
	_ struct {
		seglog.Config
		Producers int
	} = part.Config{}
)

// small makes segments of about two batches, of which there can be many; wide makes one.
var (
	small = part.Config{Config: seglog.Config{Seg: 64, Gap: 1}, Producers: 4}
	wide  = part.Config{Config: seglog.Config{Seg: api.MaxDisk, Gap: 1 << 16}, Producers: 4}
)

func newDisk(t *testing.T) *disk.Disk {
	t.Helper()
	d, err := disk.New(1 << 16)
	if err != api.OK {
		t.Fatal("disk.New", err)
	}
	return d
}

func opened(t *testing.T, d *disk.Disk, c part.Config) *part.Part {
	t.Helper()
	p, err := part.Open(d, "p", c)
	if err != api.OK || p == nil {
		t.Fatalf("Open: %v, %d", p, err)
	}
	return p
}

func fresh(t *testing.T, c part.Config) (*disk.Disk, *part.Part) {
	t.Helper()
	d := newDisk(t)
	return d, opened(t, d, c)
}

func want(t *testing.T, what string, got, err api.Errno) {
	t.Helper()
	if got != err {
		t.Errorf("%s: %d, not %d", what, got, err)
	}
}

// records are n ones of a key, with values from v on.
func records(key string, v, n int) []api.Record {
	var l []api.Record
	for i := range n {
		l = append(l, api.Record{Key: key, Value: fmt.Sprint(v + i), Time: 5})
	}
	return l
}

func plain(key string, v int) api.Batch { return api.Batch{Time: 5, L: records(key, v, 1)} }

// owned is a batch of a producer without a transaction.
func owned(pid int64, epoch, seq, n int) api.Batch {
	return api.Batch{Pid: pid, Epoch: epoch, Seq: seq, Time: 5, L: records(fmt.Sprint("k", pid), seq, n)}
}

// txn is a batch of a transaction.
func txn(pid int64, epoch, seq, n int) api.Batch {
	b := owned(pid, epoch, seq, n)
	b.Kind = api.Part
	return b
}

func commit(pid int64, epoch int) api.Batch { return rec.Mark(pid, epoch, true, 5) }

func abort(pid int64, epoch int) api.Batch { return rec.Mark(pid, epoch, false, 5) }

func isMarker(b api.Batch) bool { return b.Kind == 2 || b.Kind == 3 }

// put is Append, or, for a marker, Mark.
func put(p *part.Part, b api.Batch) (int64, bool, api.Errno) {
	if isMarker(b) {
		return p.Mark(b.Pid, b.Epoch, b.Kind == 2, b.Time)
	}
	return p.Append(b)
}

// puts puts batches which all have to be taken.
func puts(t *testing.T, p *part.Part, l ...api.Batch) {
	t.Helper()
	for _, b := range l {
		next := p.Next()
		if at, again, err := put(p, b); at != next || again || err != api.OK {
			t.Fatalf("put of %v at %d: %d, %v, %d", b, next, at, again, err)
		}
	}
}

// content tells the files of a disk.
func content(d *disk.Disk) string {
	var s strings.Builder
	for _, name := range d.Names("") {
		b, _ := d.Read(name)
		fmt.Fprintf(&s, "%s=%x/%d ", name, b, d.Kept(name))
	}
	return s.String()
}

// seen is all that a call can tell of a partition, but for the disk.
func seen(p *part.Part) string {
	var s strings.Builder
	fmt.Fprintln(&s, p.First(), p.Next(), p.Stable(), p.Batches())
	for _, committed := range []bool{false, true} {
		for offset := p.First(); ; {
			l, next, err := p.Read(offset, 3, committed)
			fmt.Fprintln(&s, l, next, err)
			if next == offset {
				break
			}
			offset = next
		}
	}
	fmt.Fprintln(&s, asked(p.Ask))
	return s.String()
}

// asked is what Ask, that of a partition or of a model, tells of many batches.
func asked(ask func(api.Batch) (bool, api.Errno)) string {
	var s []byte
	for pid := int64(0); pid < 7; pid++ {
		for epoch := range 4 {
			for kind := range 4 {
				for seq := range 6 {
					b := api.Batch{Pid: pid, Epoch: epoch, Seq: seq, Kind: kind}
					if !isMarker(b) {
						b.L = records("k", 0, 1+seq%3)
					}
					again, err := ask(b)
					s = append(strconv.AppendBool(s, again), byte('A'+err))
				}
			}
		}
	}
	return string(s)
}

func same(t *testing.T, what string, p, q *part.Part) {
	t.Helper()
	if a, b := seen(p), seen(q); a != b {
		t.Errorf("%s: %s\nnot %s", what, a, b)
	}
}

// takes holds what Append or Mark answers against what is wanted, with Ask ahead of it. What is there already and what is refused changes nothing.
func takes(t *testing.T, what string, d *disk.Disk, p *part.Part, b api.Batch, at int64, again bool, err api.Errno) {
	t.Helper()
	before, files := seen(p), content(d)
	if a, e := p.Ask(b); a != again || e != err {
		t.Errorf("%s: Ask: %v, %d, not %v, %d", what, a, e, again, err)
	}
	if seen(p) != before {
		t.Errorf("%s: Ask changed the partition", what)
	}
	if o, a, e := put(p, b); o != at || a != again || e != err {
		t.Errorf("%s: %d, %v, %d, not %d, %v, %d", what, o, a, e, at, again, err)
	}
	if changed := seen(p) != before || content(d) != files; changed != (err == api.OK && !again) {
		t.Errorf("%s: changed: %v", what, changed)
	}
}

// framed makes a frame by the library's checksum.
func framed(body []byte) []byte {
	b := binary.LittleEndian.AppendUint32(nil, uint32(len(body)))
	b = append(b, body...)
	return binary.LittleEndian.AppendUint32(b, crc32.ChecksumIEEE(b))
}

// snapBody encodes by the library's numbers.
func snapBody(offset uint64, table, view []byte) []byte {
	b := binary.AppendUvarint(nil, offset)
	b = append(binary.AppendUvarint(b, uint64(len(table))), table...)
	return append(binary.AppendUvarint(b, uint64(len(view))), view...)
}

// number encodes by the library.
func number(n uint64) []byte { return binary.AppendUvarint(nil, n) }

// lay makes a file of these bytes, in the place of any other, and durable.
func lay(t *testing.T, d *disk.Disk, name string, b []byte) {
	t.Helper()
	d.Remove(name)
	want(t, "Append of a file", d.Append(name, b), api.OK)
	want(t, "Sync of a file", d.Sync(name), api.OK)
}

// bases are those of the segments that the disk has, by the names of its files.
func bases(d *disk.Disk) []int64 {
	var l []int64
	for _, name := range d.Names("p-") {
		if number, ok := strings.CutSuffix(name, ".log"); ok {
			n, _ := strconv.ParseInt(number[2:], 16, 64)
			l = append(l, n)
		}
	}
	return l
}

// model says once more what a partition is: a list of batches, a table and a view, and what was written down of these.
type model struct {
	producers int
	l         []api.Batch
	next      int64
	table     *dedup.Table
	view      *iso.View
	snap      *model // nil: none was written
}

func newModel(producers int) *model {
	m := &model{producers: producers, view: iso.New()}
	m.table, _ = dedup.New(producers)
	return m
}

func (m *model) copy() *model {
	c := *m
	c.l, c.table, c.view = slices.Clone(m.l), m.table.Copy(), m.view.Copy()
	return &c
}

func (m *model) judge(b api.Batch) (dedup.Verdict, api.Errno) {
	b.Base = m.next
	v, err := m.table.Judge(b)
	if err == api.OK && !v.Again {
		err = m.view.May(b)
	}
	return v, err
}

func (m *model) ask(b api.Batch) (bool, api.Errno) {
	v, err := m.judge(b)
	return v.Again, err
}

func (m *model) put(b api.Batch) (int64, bool, api.Errno) {
	v, err := m.judge(b)
	if err != api.OK || v.Again {
		return v.Base, v.Again, err
	}
	b = rec.Copy(b)
	b.Base = m.next
	m.l = append(m.l, b)
	m.apply(b)
	m.next = rec.Next(b)
	return b.Base, false, api.OK
}

// with is a model behind one more batch.
func (m *model) with(b api.Batch) *model {
	c := m.copy()
	c.put(b)
	return c
}

func (m *model) apply(b api.Batch) {
	m.table.Take(b)
	m.view.Take(b)
}

func (m *model) snapshot() { m.snap = m.copy() }

func (m *model) expire(time int64) int {
	n := len(m.table.Expire(time))
	m.snapshot()
	return n
}

// crash is what the batches and the snapshot come to.
func (m *model) crash() *model {
	c := newModel(m.producers)
	c.l, c.next, c.snap = slices.Clone(m.l), m.next, m.snap
	from := int64(0)
	if m.snap != nil {
		from, c.table, c.view = m.snap.next, m.snap.table.Copy(), m.snap.view.Copy()
	}
	for _, b := range c.l {
		if b.Base >= from {
			c.apply(b)
		}
	}
	return c
}

func (m *model) stable() int64 {
	if open := m.view.Open(); len(open) > 0 {
		return open[0].First
	}
	return m.next
}

// stands reports whether a batch is committed, by the first marker behind it (P8.5).
func (m *model) stands(i int) bool {
	b := m.l[i]
	if isMarker(b) || b.Base >= m.stable() {
		return false
	}
	for _, c := range m.l[i:] {
		if b.Kind == api.Part && isMarker(c) && c.Pid == b.Pid && c.Epoch == b.Epoch {
			return c.Kind == api.Commit
		}
	}
	return true
}

// committed are the records below an offset that stand.
func (m *model) committed(below int64) []rec.At {
	var l []rec.At
	for i, b := range m.l {
		if b.Base < below && m.stands(i) {
			l = append(l, rec.Flat(b)...)
		}
	}
	return l
}

func (m *model) read(offset int64, most int, committed bool) ([]rec.At, int64, api.Errno) {
	if most < 1 {
		return nil, 0, api.ErrArg
	}
	if offset < 0 || offset > m.next {
		return nil, 0, api.ErrRange
	}
	var l []rec.At
	next := offset
	for i, b := range m.l {
		if rec.Next(b) <= offset || most == 0 || committed && (b.Base >= m.stable() || offset >= m.stable()) {
			continue
		}
		most--
		next = rec.Next(b)
		for _, r := range rec.Flat(b) {
			if r.Offset >= offset && (!committed || m.stands(i)) {
				l = append(l, r)
			}
		}
	}
	return l, next, api.OK
}

// border is that of the segments with these bases; 0: none.
func (m *model) border(bases []int64) int64 {
	border := int64(0)
	for i, b := range bases {
		if i > 0 && b <= m.stable() {
			border = b
		}
	}
	return border
}

func (m *model) compact(horizon int64, bases []int64) int {
	border := m.border(bases)
	if border == 0 {
		return 0
	}
	m.snapshot()
	stay := compact.Clean(horizon, m.committed(border)...)
	old := slices.DeleteFunc(slices.Clone(m.l), func(b api.Batch) bool { return b.Base >= border })
	rest := m.l[len(old):]
	packed, _ := compact.Pack(stay...)
	m.l = append(packed, rest...)
	m.view.Forget(border)
	return len(rec.Flat(old...)) - len(stay)
}

// agrees holds a partition against the model: everywhere, and at all edges.
func agrees(t *testing.T, what string, p *part.Part, m *model) {
	t.Helper()
	holds(t, what, p, m)
	offsets := []int64{-1, 0, m.stable() - 1, m.stable(), m.next - 1, m.next, m.next + 1}
	for _, b := range m.l {
		offsets = append(offsets, b.Base, b.Base+1)
	}
	for _, offset := range offsets {
		for _, most := range []int{0, 1, 2, 1000} {
			for _, committed := range []bool{false, true} {
				got, next, err := p.Read(offset, most, committed)
				w, wnext, werr := m.read(offset, most, committed)
				if !slices.Equal(got, w) || next != wnext || err != werr {
					t.Errorf("%s: Read(%d, %d, %v): %v, %d, %d, not %v, %d, %d", what, offset, most, committed, got, next, err, w, wnext, werr)
				}
			}
		}
	}
}

// holds holds a partition's offsets and batches against the model.
func holds(t *testing.T, what string, p *part.Part, m *model) {
	t.Helper()
	if p.First() != 0 || p.Next() != m.next || p.Stable() != m.stable() {
		t.Errorf("%s: offsets %d, %d, %d, not 0, %d, %d", what, p.First(), p.Next(), p.Stable(), m.next, m.stable())
	}
	if got := p.Batches(); !slices.EqualFunc(got, m.l, rec.Same) {
		t.Errorf("%s: Batches: %v, not %v", what, got, m.l)
	}
}

// matches reports whether a partition is what a model says.
func matches(p *part.Part, m *model) bool {
	return p.First() == 0 && p.Next() == m.next && p.Stable() == m.stable() &&
		slices.EqualFunc(p.Batches(), m.l, rec.Same) && asked(p.Ask) == asked(m.ask)
}

// file is that of the snapshot; none if none was written.
func (m *model) file() []byte {
	if m.snap == nil {
		return nil
	}
	return framed(snapBody(uint64(m.snap.next), m.snap.table.Bytes(), m.snap.view.Bytes()))
}

// snapIs holds the file of the snapshot against the model.
func snapIs(t *testing.T, what string, d *disk.Disk, m *model) {
	t.Helper()
	got, err := d.Read("p.snap")
	if w := m.file(); string(got) != string(w) || (err == api.OK) != (m.snap != nil) {
		t.Errorf("%s: p.snap: %x, %d, not %x", what, got, err, w)
	}
	if d.Kept("p.snap") != len(got) {
		t.Errorf("%s: %d of %d bytes of p.snap are durable", what, d.Kept("p.snap"), len(got))
	}
}

// someBatch is one that may come next, or nearly.
func someBatch(rnd *rand.Rand, m *model) api.Batch {
	b := api.Batch{Base: int64(rnd.Intn(9) - 4), Pid: int64(rnd.Intn(6)), Epoch: rnd.Intn(3), Kind: rnd.Intn(4), Time: int64(rnd.Intn(20))}
	if row, ok := m.table.Row(b.Pid); ok && rnd.Intn(4) > 0 {
		b.Epoch, b.Seq = row.Epoch, row.Seq+row.Count
		if rnd.Intn(6) == 0 {
			b.Seq = row.Seq
		}
	}
	if b.Pid == 0 {
		b.Epoch, b.Kind, b.Seq = 0, 0, 0
	}
	if isMarker(b) {
		b.Seq = 0
		return b
	}
	for range 1 + rnd.Intn(3) {
		r := api.Record{Key: string(rune('a' + rnd.Intn(4))), Time: int64(rnd.Intn(20)), Gone: rnd.Intn(4) == 0}
		if !r.Gone {
			r.Value = fmt.Sprint(rnd.Intn(50))
		}
		b.L = append(b.L, r)
	}
	if rnd.Intn(30) == 0 {
		b.Seq, b.Time = rnd.Intn(4)-1, int64(rnd.Intn(3)-1)
	}
	return b
}
