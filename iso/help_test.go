package iso_test

import (
	"encoding/binary"
	"fmt"
	"hash/crc32"
	"math/rand"
	"slices"
	"testing"

	"towpath/api"
	"towpath/iso"
	"towpath/rec"
)

// The calls keep the signatures that the chapter lists, and the fates their numbers.
var (
	_ func() *iso.View                       = iso.New
	_ func([]byte) (*iso.View, api.Errno)    = iso.Load
	_ func(*iso.View, api.Batch) api.Errno   = (*iso.View).May
	_ func(*iso.View, api.Batch) api.Errno   = (*iso.View).Take
	_ func(*iso.View, int64) int             = (*iso.View).Forget
	_ func(*iso.View, api.Batch) int         = (*iso.View).Fate
	_ func(*iso.View, ...api.Batch) []rec.At = (*iso.View).Pick
	_ func(*iso.View) []iso.Txn              = (*iso.View).Open
	_ func(*iso.View) []iso.Txn              = (*iso.View).Fallen
	_ func(*iso.View) int64                  = (*iso.View).Stable
	_ func(*iso.View) int64                  = (*iso.View).Next
	_ func(*iso.View) []byte                 = (*iso.View).Bytes
	_ func(*iso.View) *iso.View              = (*iso.View).Copy
	_ [4]int                                 = [...]int{iso.Later: 0, iso.Stands: 0, iso.Falls: 0, iso.Sign: 0}
	_ [1]int                                 = [iso.Later + 1]int{}
	_ [2]int                                 = [iso.Stands + 1]int{}
	_ [3]int                                 = [iso.Falls + 1]int{}
	_ struct {
		Pid         int64
		Epoch       int
		First, Last int64
	} = iso.Txn{}
)

func want(t *testing.T, what string, got, err api.Errno) {
	t.Helper()
	if got != err {
		t.Errorf("%s: %d, not %d", what, got, err)
	}
}

// batch is one of n records; a marker has none.
func batch(pid int64, epoch, kind, n int, base int64) api.Batch {
	b := api.Batch{Base: base, Pid: pid, Epoch: epoch, Kind: kind}
	for i := range n {
		b.L = append(b.L, api.Record{Key: fmt.Sprint("k", base+int64(i)), Value: "v", Time: int64(i)})
	}
	return b
}

func plain(n int, base int64) api.Batch { return batch(0, 0, api.Plain, n, base) }

func part(pid int64, epoch, n int, base int64) api.Batch { return batch(pid, epoch, api.Part, n, base) }

func commit(pid int64, epoch int, base int64) api.Batch {
	return batch(pid, epoch, api.Commit, 0, base)
}

func abort(pid int64, epoch int, base int64) api.Batch { return batch(pid, epoch, api.Abort, 0, base) }

// take lets a view accept batches, one by one.
func take(t *testing.T, v *iso.View, l ...api.Batch) {
	t.Helper()
	for i, b := range l {
		if err := v.Take(b); err != api.OK {
			t.Fatalf("Take of batch %d, %v: %d", i, b, err)
		}
	}
}

func taken(t *testing.T, l ...api.Batch) *iso.View {
	t.Helper()
	v := iso.New()
	take(t, v, l...)
	return v
}

func txnsAre(t *testing.T, what string, got []iso.Txn, want ...iso.Txn) {
	t.Helper()
	if !slices.Equal(got, want) {
		t.Errorf("%s: %v, not %v", what, got, want)
	}
}

func offsetsAre(t *testing.T, what string, v *iso.View, stable, next int64) {
	t.Helper()
	if v.Stable() != stable || v.Next() != next {
		t.Errorf("%s: Stable %d, Next %d, not %d, %d", what, v.Stable(), v.Next(), stable, next)
	}
}

// same holds all that a call can tell of two views against each other.
func same(t *testing.T, what string, x, y *iso.View) {
	t.Helper()
	if a, b := seen(x), seen(y); a != b {
		t.Errorf("%s: %s, not %s", what, a, b)
	}
}

func seen(v *iso.View) string {
	return fmt.Sprintf("%v %v %d %d %x", v.Open(), v.Fallen(), v.Stable(), v.Next(), v.Bytes())
}

// may holds May and Take against what is wanted. May changes nothing, and so does Take with an error.
func may(t *testing.T, what string, v *iso.View, b api.Batch, err api.Errno) {
	t.Helper()
	before := seen(v)
	want(t, what+": May", v.May(b), err)
	if seen(v) != before {
		t.Errorf("%s: May changed the view", what)
	}
	want(t, what+": Take", v.Take(b), err)
	if after := seen(v); (after == before) != (err != api.OK) {
		t.Errorf("%s: Take: %d, and the view was %s, is %s", what, err, before, after)
	}
}

// sealed makes a frame by the library's checksum.
func sealed(body []byte) []byte {
	b := binary.LittleEndian.AppendUint32(nil, uint32(len(body)))
	b = append(b, body...)
	return binary.LittleEndian.AppendUint32(b, crc32.ChecksumIEEE(b))
}

// numbers encodes by the library's numbers, those below 0 as their 64 bits.
func numbers(l ...int64) []byte {
	var b []byte
	for _, n := range l {
		b = binary.AppendUvarint(b, uint64(n))
	}
	return b
}

func body(next int64, open, fallen []iso.Txn) []byte {
	l := []int64{next, int64(len(open))}
	for _, x := range open {
		l = append(l, x.Pid, int64(x.Epoch), x.First)
	}
	l = append(l, int64(len(fallen)))
	for _, x := range fallen {
		l = append(l, x.Pid, int64(x.Epoch), x.First, x.Last)
	}
	return numbers(l...)
}

// model is a view that keeps each batch that was accepted, and works all else out from these.
type model struct {
	next      int64
	past      []api.Batch
	forgotten []int64 // the offsets of markers
}

func isMarker(b api.Batch) bool { return b.Kind == 2 || b.Kind == 3 }

// end returns the first marker of the identity of past[i] behind it.
func (m *model) end(i int) (api.Batch, bool) {
	for _, b := range m.past[i+1:] {
		if isMarker(b) && b.Pid == m.past[i].Pid && b.Epoch == m.past[i].Epoch {
			return b, true
		}
	}
	return api.Batch{}, false
}

// txns returns the open and the aborted transactions that are known.
func (m *model) txns() (open, fallen []iso.Txn) {
	add := func(l []iso.Txn, x iso.Txn) []iso.Txn {
		again := slices.ContainsFunc(l, func(y iso.Txn) bool { return y.Pid == x.Pid && y.Epoch == x.Epoch && y.Last == x.Last })
		if again {
			return l // its first batch was there already
		}
		return append(l, x)
	}
	for i, b := range m.past {
		if b.Kind != 1 {
			continue
		}
		end, ended := m.end(i)
		switch {
		case !ended:
			open = add(open, iso.Txn{Pid: b.Pid, Epoch: b.Epoch, First: b.Base, Last: -1})
		case end.Kind == 3 && !slices.Contains(m.forgotten, end.Base):
			fallen = add(fallen, iso.Txn{Pid: b.Pid, Epoch: b.Epoch, First: b.Base, Last: end.Base})
		}
	}
	slices.SortFunc(fallen, func(a, b iso.Txn) int { return int(a.Last - b.Last) })
	return open, fallen
}

func (m *model) stable() int64 {
	if open, _ := m.txns(); len(open) > 0 {
		return open[0].First
	}
	return m.next
}

func (m *model) take(b api.Batch) api.Errno {
	if err := rec.Valid(b); err != api.OK {
		return err
	}
	if b.Base < m.next {
		return api.ErrRange
	}
	open, fallen := m.txns()
	if b.Kind != 0 && slices.ContainsFunc(fallen, func(x iso.Txn) bool { return x.Pid == b.Pid && x.Epoch == b.Epoch }) {
		return api.ErrFenced
	}
	if b.Kind != 0 && slices.ContainsFunc(open, func(x iso.Txn) bool { return x.Pid == b.Pid && x.Epoch != b.Epoch }) {
		return api.ErrState
	}
	m.next = b.Base + int64(max(1, len(b.L)))
	m.past = append(m.past, b)
	return api.OK
}

func (m *model) forget(offset int64) int {
	n := 0
	_, fallen := m.txns()
	for _, x := range fallen {
		if x.Last < offset {
			m.forgotten = append(m.forgotten, x.Last)
			n++
		}
	}
	return n
}

// fate is that of the accepted batch i, as long as nothing is forgotten.
func (m *model) fate(i int) int {
	b := m.past[i]
	end, _ := m.end(i)
	switch {
	case isMarker(b):
		return 3
	case b.Base >= m.stable():
		return 0
	case b.Kind == 0 || end.Kind == 2:
		return 1
	}
	return 2
}

// picked are the records of the accepted batches that are committed.
func (m *model) picked() []rec.At {
	var l []rec.At
	for i, b := range m.past {
		if m.fate(i) == 1 {
			for j, r := range b.L {
				l = append(l, rec.At{Offset: b.Base + int64(j), Record: r})
			}
		}
	}
	return l
}

// agree holds a view against the model.
func agree(t *testing.T, v *iso.View, m *model) {
	t.Helper()
	open, fallen := m.txns()
	txnsAre(t, "Open", v.Open(), open...)
	txnsAre(t, "Fallen", v.Fallen(), fallen...)
	offsetsAre(t, "offsets", v, m.stable(), m.next)
	if got, want := v.Bytes(), sealed(body(m.next, open, fallen)); string(got) != string(want) {
		t.Errorf("Bytes: %x, not %x", got, want)
	}
	if len(m.forgotten) > 0 {
		return
	}
	for i, b := range m.past {
		if got, want := v.Fate(b), m.fate(i); got != want {
			t.Errorf("Fate(%v): %d, not %d", b, got, want)
		}
	}
	if got, want := v.Pick(m.past...), m.picked(); !slices.Equal(got, want) {
		t.Errorf("Pick: %v, not %v", got, want)
	}
}

// someBatch is one that may come next, or nearly.
func someBatch(rnd *rand.Rand, m *model) api.Batch {
	b := batch(int64(rnd.Intn(4)), rnd.Intn(3), rnd.Intn(4), 1+rnd.Intn(3), m.next+int64(rnd.Intn(4))-1)
	open, _ := m.txns()
	if len(open) > 0 && rnd.Intn(2) == 0 {
		x := open[rnd.Intn(len(open))]
		b.Pid, b.Epoch = x.Pid, x.Epoch
	}
	if b.Pid == 0 {
		b.Epoch, b.Kind = 0, 0
	} else if isMarker(b) {
		b.L = nil
	}
	if rnd.Intn(25) == 0 {
		b.Epoch -= rnd.Intn(3)
		b.Base -= int64(rnd.Intn(20))
		b.Kind += rnd.Intn(3) - 1
	}
	return b
}
