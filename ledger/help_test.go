package ledger_test

import (
	"encoding/binary"
	"fmt"
	"hash/crc32"
	"maps"
	"math"
	"slices"
	"strings"
	"testing"

	"towpath/api"
	"towpath/disk"
	"towpath/ledger"
	"towpath/part"
	"towpath/rec"
	"towpath/seglog"
)

// The calls keep the signatures that the chapter lists.
var (
	_ func(*disk.Disk, string, part.Config) (*ledger.Ledger, api.Errno) = ledger.Open
	_ func(l *ledger.Ledger, key, value string, time int64) api.Errno   = (*ledger.Ledger).Set
	_ func(*ledger.Ledger, string, int64) api.Errno                     = (*ledger.Ledger).Drop
	_ func(*ledger.Ledger, int64, ...api.Record) api.Errno              = (*ledger.Ledger).All
	_ func(*ledger.Ledger, int64) (int, api.Errno)                      = (*ledger.Ledger).Clean
	_ func(*ledger.Ledger, string) (string, bool)                       = (*ledger.Ledger).Get
	_ func(l *ledger.Ledger, from, to string, most int) []rec.At        = (*ledger.Ledger).Range
	_ func(*ledger.Ledger) int                                          = (*ledger.Ledger).Len
	_ func(*ledger.Ledger) int                                          = (*ledger.Ledger).Spare
)

// small makes segments of about two batches, of which there can be many; wide makes one, of which nothing can be cleaned.
var (
	small = part.Config{Config: seglog.Config{Seg: 64, Gap: 9}, Producers: 1}
	wide  = part.Config{Config: seglog.Config{Seg: api.MaxDisk, Gap: 1 << 16}, Producers: 1}
)

var (
	long    = strings.Repeat("x", api.MaxText)
	tooLong = long + "x"
)

func newDisk(t *testing.T) *disk.Disk {
	t.Helper()
	d, err := disk.New(api.MaxDisk)
	if err != api.OK {
		t.Fatal("disk.New", err)
	}
	return d
}

func opened(t *testing.T, d *disk.Disk, c part.Config) *ledger.Ledger {
	t.Helper()
	l, err := ledger.Open(d, "x", c)
	if err != api.OK || l == nil {
		t.Fatalf("Open: %v, %d", l, err)
	}
	return l
}

func fresh(t *testing.T, c part.Config) (*disk.Disk, *ledger.Ledger) {
	t.Helper()
	d := newDisk(t)
	return d, opened(t, d, c)
}

func want(t *testing.T, what string, got, err api.Errno) {
	t.Helper()
	if got != err {
		t.Errorf("%s: %d, not %d", what, got, err)
	}
}

func set(key, value string, time int64) api.Record {
	return api.Record{Key: key, Value: value, Time: time}
}

func drop(key string, time int64) api.Record {
	return api.Record{Key: key, Gone: true, Time: time}
}

// alls makes one All of each record, with its own time.
func alls(t *testing.T, l *ledger.Ledger, rs ...api.Record) {
	t.Helper()
	for _, r := range rs {
		want(t, fmt.Sprint("All of ", r), l.All(r.Time, r), api.OK)
	}
}

// cleans is a Clean that removes so many records.
func cleans(t *testing.T, what string, l *ledger.Ledger, horizon int64, n int) {
	t.Helper()
	if got, err := l.Clean(horizon); got != n || err != api.OK {
		t.Errorf("%s: Clean(%d): %d, %d, not %d", what, horizon, got, err, n)
	}
}

// header is that of a segment's file, by the library's numbers and checksum.
func header(base int64) []byte {
	body := append(binary.AppendUvarint([]byte{83}, uint64(base)), 0)
	b := binary.LittleEndian.AppendUint32(nil, uint32(len(body)))
	b = append(b, body...)
	return binary.LittleEndian.AppendUint32(b, crc32.ChecksumIEEE(b))
}

// content tells the files of a disk.
func content(d *disk.Disk) string {
	var s strings.Builder
	for _, name := range d.Names("") {
		b, _ := d.Read(name)
		fmt.Fprintf(&s, "%s=%x/%d ", name, b, d.Kept(name))
	}
	return s.String()
}

// pairs tells keys and values, offsets and times.
func pairs(l []rec.At) string {
	var s strings.Builder
	for _, r := range l {
		fmt.Fprintf(&s, "%d:%s=%s@%d ", r.Offset, r.Key, r.Value, r.Time)
	}
	return s.String()
}

// seen is all that a call can tell of a ledger, but for what is spare.
func seen(l *ledger.Ledger) string {
	s := fmt.Sprint(l.Len(), " ", pairs(l.Range("", "", math.MaxInt)))
	for _, key := range keys {
		v, ok := l.Get(key)
		s += fmt.Sprintf("%q %q %v ", key, v, ok)
	}
	return s
}

// keys are those that are asked for, whether they are there or not.
var keys = []string{"", "\x00", "a", "aa", "ab", "b", "c", "d", "\xff"}

// model says once more what a ledger is: of each key the last record that is not gone.
type model struct {
	next  int64 // the offset of the next record
	count int   // records of the partition
	rows  map[string]rec.At
}

func newModel() *model { return &model{rows: map[string]rec.At{}} }

func (m *model) all(rs ...api.Record) {
	for _, r := range rs {
		if r.Gone {
			delete(m.rows, r.Key)
		} else {
			m.rows[r.Key] = rec.At{Offset: m.next, Record: r}
		}
		m.next++
		m.count++
	}
}

func (m *model) copy() *model {
	c := *m
	c.rows = maps.Clone(m.rows)
	return &c
}

func (m *model) span(from, to string, most int) []rec.At {
	var l []rec.At
	for _, key := range slices.Sorted(maps.Keys(m.rows)) {
		if key >= from && (to == "" || key < to) && len(l) < most {
			l = append(l, m.rows[key])
		}
	}
	return l
}

// agrees holds a ledger against the model: all keys, all ends.
func agrees(t *testing.T, what string, l *ledger.Ledger, m *model) {
	t.Helper()
	if l.Len() != len(m.rows) || l.Spare() != m.count-len(m.rows) {
		t.Errorf("%s: Len %d, Spare %d, not %d, %d", what, l.Len(), l.Spare(), len(m.rows), m.count-len(m.rows))
	}
	for _, key := range slices.Concat(keys, slices.Collect(maps.Keys(m.rows))) {
		r, there := m.rows[key]
		if v, ok := l.Get(key); v != r.Value || ok != there {
			t.Errorf("%s: Get(%q): %q, %v, not %q, %v", what, key, v, ok, r.Value, there)
		}
	}
	for _, from := range keys {
		for _, to := range keys {
			for _, most := range []int{math.MinInt, -1, 0, 1, 2, len(m.rows), len(m.rows) + 1, math.MaxInt} {
				if got, w := l.Range(from, to, most), m.span(from, to, most); !slices.Equal(got, w) {
					t.Errorf("%s: Range(%q, %q, %d): %v, not %v", what, from, to, most, got, w)
				}
			}
		}
	}
}

// twin is a ledger beside a partition that is given what the chapter says the ledger gives its own: their disks have to be alike.
type twin struct {
	*ledger.Ledger
	d, e *disk.Disk
	p    *part.Part
	m    *model
	c    part.Config
}

func newTwin(t *testing.T, c part.Config) *twin {
	t.Helper()
	w := &twin{d: newDisk(t), e: newDisk(t), m: newModel(), c: c}
	w.open(t)
	return w
}

func (w *twin) open(t *testing.T) {
	t.Helper()
	w.Ledger = opened(t, w.d, w.c)
	p, err := part.Open(w.e, "x", w.c)
	if err != api.OK {
		t.Fatal("part.Open", err)
	}
	w.p = p
}

// crash opens both again, on what is left.
func (w *twin) crash(t *testing.T, picks ...int) {
	t.Helper()
	w.d, w.e = w.d.Crash(picks...), w.e.Crash(picks...)
	w.open(t)
}

// same holds the two against each other, and the ledger against the model.
func (w *twin) same(t *testing.T, what string) {
	t.Helper()
	if a, b := content(w.d), content(w.e); a != b {
		t.Errorf("%s: files %s, not %s", what, a, b)
	}
	agrees(t, what, w.Ledger, w.m)
}

// puts is an All, or what comes to one, and what the partition says of its batch.
func (w *twin) puts(t *testing.T, what string, got api.Errno, time int64, rs ...api.Record) {
	t.Helper()
	_, _, err := w.p.Append(api.Batch{Time: time, L: rs})
	want(t, what, got, err)
	if err == api.OK {
		w.m.all(rs...)
	}
	w.same(t, what)
}

func (w *twin) all(t *testing.T, time int64, rs ...api.Record) {
	t.Helper()
	w.puts(t, fmt.Sprintf("All(%d, %v)", time, rs), w.All(time, rs...), time, rs...)
}

func (w *twin) set(t *testing.T, key, value string, time int64) {
	t.Helper()
	w.puts(t, fmt.Sprintf("Set(%q, %q, %d)", key, value, time), w.Set(key, value, time), time, set(key, value, time))
}

func (w *twin) drop(t *testing.T, key string, time int64) {
	t.Helper()
	what := fmt.Sprintf("Drop(%q, %d)", key, time)
	got := w.Drop(key, time)
	if _, there := w.m.rows[key]; there {
		w.puts(t, what, got, time, drop(key, time))
		return
	}
	want(t, what, got, api.ErrNone)
	w.same(t, what)
}

// clean returns how many records went.
func (w *twin) clean(t *testing.T, horizon int64) int {
	t.Helper()
	what := fmt.Sprintf("Clean(%d)", horizon)
	n, err := w.Clean(horizon)
	if m, e := w.p.Compact(horizon); n != m || err != e {
		t.Errorf("%s: %d, %d, not %d, %d", what, n, err, m, e)
	}
	w.m.count -= n
	w.same(t, what)
	return n
}
