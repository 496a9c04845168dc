package dedup_test

import (
	"encoding/binary"
	"fmt"
	"hash/crc32"
	"math/rand"
	"slices"
	"testing"

	"towpath/api"
	"towpath/dedup"
	"towpath/rec"
)

// The calls keep the signatures that the chapter lists.
var (
	_ func(int) (*dedup.Table, api.Errno)                      = dedup.New
	_ func([]byte, int) (*dedup.Table, api.Errno)              = dedup.Load
	_ func(*dedup.Table, api.Batch) (dedup.Verdict, api.Errno) = (*dedup.Table).Judge
	_ func(*dedup.Table, api.Batch) api.Errno                  = (*dedup.Table).Take
	_ func(*dedup.Table, int64) []int64                        = (*dedup.Table).Expire
	_ func(*dedup.Table, int64) (dedup.Row, bool)              = (*dedup.Table).Row
	_ func(*dedup.Table) []dedup.Row                           = (*dedup.Table).Rows
	_ func(*dedup.Table) []dedup.Row                           = (*dedup.Table).Open
	_ func(*dedup.Table) int64                                 = (*dedup.Table).Stable
	_ func(*dedup.Table) int64                                 = (*dedup.Table).Next
	_ func(*dedup.Table) []byte                                = (*dedup.Table).Bytes
	_ func(*dedup.Table) *dedup.Table                          = (*dedup.Table).Copy
	_ struct {
		Pid        int64
		Epoch      int
		Seq, Count int
		Base, From int64
		Time       int64
	} = dedup.Row{}
	_ struct {
		Again bool
		Base  int64
	} = dedup.Verdict{}
)

func made(t *testing.T, most int) *dedup.Table {
	t.Helper()
	d, err := dedup.New(most)
	if err != api.OK || d == nil {
		t.Fatalf("New(%d): %v, %d", most, d, err)
	}
	return d
}

func want(t *testing.T, what string, got, err api.Errno) {
	t.Helper()
	if got != err {
		t.Errorf("%s: %d, not %d", what, got, err)
	}
}

// batch is one of n records; a marker has none.
func batch(pid int64, epoch, seq, kind, n int, base int64) api.Batch {
	b := api.Batch{Base: base, Pid: pid, Epoch: epoch, Seq: seq, Kind: kind}
	for i := range n {
		b.L = append(b.L, api.Record{Key: "k", Value: string(rune('a' + i%26))})
	}
	return b
}

func plain(pid int64, epoch, seq, n int, base int64) api.Batch {
	return batch(pid, epoch, seq, api.Plain, n, base)
}

func part(pid int64, epoch, seq, n int, base int64) api.Batch {
	return batch(pid, epoch, seq, api.Part, n, base)
}

func mark(pid int64, epoch, kind int, base int64) api.Batch {
	return batch(pid, epoch, 0, kind, 0, base)
}

func at(b api.Batch, time int64) api.Batch {
	b.Time = time
	return b
}

// taken is a table that has accepted these batches.
func taken(t *testing.T, most int, l ...api.Batch) *dedup.Table {
	t.Helper()
	d := made(t, most)
	for i, b := range l {
		if err := d.Take(b); err != api.OK {
			t.Fatalf("Take of batch %d, %v: %d", i, b, err)
		}
	}
	return d
}

func rowsAre(t *testing.T, what string, got []dedup.Row, want ...dedup.Row) {
	t.Helper()
	if !slices.Equal(got, want) {
		t.Errorf("%s: %v, not %v", what, got, want)
	}
}

func offsetsAre(t *testing.T, what string, d *dedup.Table, stable, next int64) {
	t.Helper()
	if d.Stable() != stable || d.Next() != next {
		t.Errorf("%s: Stable %d, Next %d, not %d, %d", what, d.Stable(), d.Next(), stable, next)
	}
}

// same holds all that a call can tell of two tables against each other.
func same(t *testing.T, what string, x, y *dedup.Table) {
	t.Helper()
	if a, b := seen(x), seen(y); a != b {
		t.Errorf("%s: %s, not %s", what, a, b)
	}
}

func seen(d *dedup.Table) string {
	return fmt.Sprintf("%v %v %d %d %x", d.Rows(), d.Open(), d.Stable(), d.Next(), d.Bytes())
}

// sealed makes a frame by the library's checksum.
func sealed(body []byte) []byte {
	b := binary.LittleEndian.AppendUint32(nil, uint32(len(body)))
	b = append(b, body...)
	return binary.LittleEndian.AppendUint32(b, crc32.ChecksumIEEE(b))
}

// body encodes a table by the library's numbers, those below 0 as their 64 bits.
func body(next int64, rows ...dedup.Row) []byte {
	b := binary.AppendUvarint(nil, uint64(next))
	b = binary.AppendUvarint(b, uint64(len(rows)))
	for _, r := range rows {
		for _, n := range []int64{r.Pid, int64(r.Epoch), int64(r.Seq), int64(r.Count), r.Base} {
			b = binary.AppendUvarint(b, uint64(n))
		}
		b = binary.AppendVarint(b, r.From)
		b = binary.AppendUvarint(b, uint64(r.Time))
	}
	return b
}

// model is a table that keeps each batch of a producer that was accepted and not expired, and works all else out from these.
type model struct {
	most int
	next int64
	past []api.Batch
}

func isMarker(b api.Batch) bool { return b.Kind == 2 || b.Kind == 3 }

func (m *model) pids() []int64 {
	var l []int64
	for _, b := range m.past {
		if !slices.Contains(l, b.Pid) {
			l = append(l, b.Pid)
		}
	}
	slices.Sort(l)
	return l
}

func (m *model) row(pid int64) (dedup.Row, bool) {
	r := dedup.Row{Pid: pid, Epoch: -1, From: -1}
	there := false
	for _, b := range m.past {
		if b.Pid != pid {
			continue
		}
		there = true
		r.Time = max(r.Time, b.Time)
		r.Epoch, r.Seq, r.Count, r.Base = b.Epoch, b.Seq, len(b.L), b.Base
		switch {
		case isMarker(b):
			r.Epoch, r.Base, r.From = b.Epoch+1, 0, -1
		case b.Kind == 1 && r.From < 0:
			r.From = b.Base
		}
	}
	return r, there
}

func (m *model) rows(openOnly bool) []dedup.Row {
	var l []dedup.Row
	for _, pid := range m.pids() {
		if r, _ := m.row(pid); r.From >= 0 || !openOnly {
			l = append(l, r)
		}
	}
	return l
}

func (m *model) open() []dedup.Row {
	l := m.rows(true)
	slices.SortFunc(l, func(a, b dedup.Row) int { return int(a.From - b.From) })
	return l
}

func (m *model) stable() int64 {
	if l := m.open(); len(l) > 0 {
		return l[0].From
	}
	return m.next
}

// judge lists the rules of the chapter and takes the first one that applies.
func (m *model) judge(b api.Batch) (dedup.Verdict, api.Errno) {
	if err := rec.Valid(b); err != api.OK || b.Pid == 0 {
		return dedup.Verdict{}, err
	}
	r, there := m.row(b.Pid)
	n := len(b.L)
	base := int64(-1)
	if b.Seq == r.Seq && n == r.Count {
		base = r.Base
	}
	next := r.Seq + r.Count
	if b.Epoch > r.Epoch {
		next = 0
	}
	for _, rule := range []struct {
		applies bool
		verdict dedup.Verdict
		err     api.Errno
	}{
		{b.Epoch < r.Epoch && isMarker(b), dedup.Verdict{Again: true, Base: -1}, api.OK},
		{b.Epoch < r.Epoch, dedup.Verdict{}, api.ErrFenced},
		{!isMarker(b) && b.Epoch == r.Epoch && b.Seq+n <= r.Seq+r.Count, dedup.Verdict{Again: true, Base: base}, api.OK},
		{r.From >= 0 && (b.Epoch > r.Epoch || b.Kind == 0), dedup.Verdict{}, api.ErrState},
		{!isMarker(b) && b.Seq != next, dedup.Verdict{}, api.ErrOrder},
		{!there && len(m.pids()) == m.most, dedup.Verdict{}, api.ErrFull},
	} {
		if rule.applies {
			return rule.verdict, rule.err
		}
	}
	return dedup.Verdict{}, api.OK
}

func (m *model) take(b api.Batch) api.Errno {
	v, err := m.judge(b)
	switch {
	case err != api.OK:
		return err
	case v.Again:
		return api.ErrThere
	case b.Base < m.next:
		return api.ErrRange
	}
	m.next = b.Base + int64(max(1, len(b.L)))
	if b.Pid > 0 {
		m.past = append(m.past, b)
	}
	return api.OK
}

func (m *model) expire(time int64) []int64 {
	var l []int64
	for _, pid := range m.pids() {
		if r, _ := m.row(pid); r.From < 0 && r.Time < time {
			l = append(l, pid)
		}
	}
	m.past = slices.DeleteFunc(m.past, func(b api.Batch) bool { return slices.Contains(l, b.Pid) })
	return l
}

// agree holds a table against the model.
func agree(t *testing.T, d *dedup.Table, m *model) {
	t.Helper()
	rowsAre(t, "Rows", d.Rows(), m.rows(false)...)
	rowsAre(t, "Open", d.Open(), m.open()...)
	offsetsAre(t, "offsets", d, m.stable(), m.next)
	if got, want := d.Bytes(), sealed(body(m.next, m.rows(false)...)); string(got) != string(want) {
		t.Errorf("Bytes: %x, not %x", got, want)
	}
	for pid := int64(-1); pid < 7; pid++ {
		r, there := m.row(pid)
		if !there {
			r = dedup.Row{}
		}
		if got, ok := d.Row(pid); got != r || ok != there {
			t.Errorf("Row(%d): %v, %t, not %v, %t", pid, got, ok, r, there)
		}
	}
}

// someBatch is one that may come next, or nearly.
func someBatch(rnd *rand.Rand, m *model) api.Batch {
	pid := int64(rnd.Intn(6))
	r, _ := m.row(pid)
	b := batch(pid, max(0, r.Epoch+rnd.Intn(4)-1), 0, rnd.Intn(4), 1+rnd.Intn(3), m.next+int64(rnd.Intn(5))-1)
	if rnd.Intn(2) == 0 {
		b.Epoch = max(0, r.Epoch)
	}
	if pid == 0 {
		b.Epoch, b.Kind = 0, 0
	} else if isMarker(b) {
		b.L = nil
	} else if b.Epoch <= r.Epoch {
		b.Seq = max(0, r.Seq+r.Count-rnd.Intn(2)*(rnd.Intn(6)-2))
	} else if rnd.Intn(4) == 0 {
		b.Seq = 1 + rnd.Intn(3)
	}
	b.Time = int64(rnd.Intn(30))
	if rnd.Intn(25) == 0 {
		b.Epoch -= rnd.Intn(5)
		b.Base -= int64(rnd.Intn(20))
		b.Seq -= rnd.Intn(3)
	}
	return b
}
