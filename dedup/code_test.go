package dedup_test

import (
	"encoding/binary"
	"fmt"
	"math"
	"math/rand"
	"slices"
	"testing"

	"towpath/api"
	"towpath/dedup"
)

func refused(t *testing.T, what string, most int, b []byte) {
	t.Helper()
	if d, err := dedup.Load(b, most); d != nil || err != api.ErrForm {
		t.Errorf("%s: Load(%x, %d): %v, %d", what, b, most, d, err)
	}
}

func loaded(t *testing.T, what string, most int, b []byte) *dedup.Table {
	t.Helper()
	d, err := dedup.Load(b, most)
	if err != api.OK || string(d.Bytes()) != string(b) {
		t.Fatalf("%s: Load(%x, %d): %d, %x", what, b, most, err, d.Bytes())
	}
	return d
}

func bytesAre(t *testing.T, what string, d *dedup.Table, body []byte) {
	t.Helper()
	if got, want := d.Bytes(), sealed(body); string(got) != string(want) {
		t.Errorf("%s: %x, not %x", what, got, want)
	}
}

// P7.5: the bytes of an empty table, and of rows with and without a batch and an open transaction.
func TestBytes(t *testing.T) {
	d := made(t, 3)
	bytesAre(t, "New", d, []byte{0, 0})
	want(t, "Take", d.Take(at(part(3, 0, 0, 2, 10), 7)), api.OK)
	bytesAre(t, "a row", d, []byte{12, 1, 3, 0, 0, 2, 10, 20, 7})
	want(t, "Take", d.Take(at(plain(300, 1, 0, 1, 12), 128)), api.OK)
	bytesAre(t, "two rows", d, []byte{13, 2, 3, 0, 0, 2, 10, 20, 7, 0xac, 2, 1, 0, 1, 12, 1, 0x80, 1})
	want(t, "Take", d.Take(part(1, 0, 0, 1, 13)), api.OK)
	want(t, "Take", d.Take(mark(3, 0, api.Commit, 14)), api.OK)
	bytesAre(t, "by producer", d, []byte{15, 3, 1, 0, 0, 1, 13, 26, 0, 3, 1, 0, 0, 0, 1, 7, 0xac, 2, 1, 0, 1, 12, 1, 0x80, 1})
	d.Expire(9)
	bytesAre(t, "Expire", d, []byte{15, 2, 1, 0, 0, 1, 13, 26, 0, 0xac, 2, 1, 0, 1, 12, 1, 0x80, 1})
}

// sample is a table with rows of all forms.
func sample(t *testing.T) *dedup.Table {
	return taken(t, 9, at(plain(2, 3, 0, 2, 0), 4), part(5, 0, 0, 1, 2), at(part(5, 0, 1, 3, 3), 300), mark(200, 6, api.Abort, 6), plain(0, 0, 0, 1, 200))
}

// P7.9: what is loaded behaves as what was there, for any limit that lets all rows be; and the two know nothing of each other.
func TestRoundTrip(t *testing.T) {
	rnd := rand.New(rand.NewSource(5))
	for range 200 {
		d, m := made(t, 5), &model{most: 5}
		for range rnd.Intn(60) {
			b := someBatch(rnd, m)
			d.Take(b)
			m.take(b)
		}
		b := d.Bytes()
		x := loaded(t, "Load", 5, b)
		same(t, "Load", x, d)
		for range 30 {
			next := someBatch(rnd, m)
			v, err := m.judge(next)
			judged(t, x, "loaded", next, v, err)
			want(t, "loaded: Take", x.Take(next), m.take(next))
			agree(t, x, m)
		}
		if string(d.Bytes()) != string(b) {
			t.Error("the first one changed")
		}
		if t.Failed() {
			return
		}
	}
	b := sample(t).Bytes()
	x := loaded(t, "bytes that are cleared", 3, slices.Clone(b))
	y, _ := dedup.Load(b, 3)
	clear(b)
	same(t, "bytes that are cleared", y, x)
}

// P7.5: limits of a table ahead of its form; as many rows as are allowed, and one more.
func TestLoadMost(t *testing.T) {
	b := sample(t).Bytes()
	for _, most := range []int{0, -1, 4097, math.MinInt, math.MaxInt} {
		for _, b := range [][]byte{b, nil, []byte("no")} {
			if d, err := dedup.Load(b, most); d != nil || err != api.ErrArg {
				t.Errorf("Load(%x, %d): %v, %d", b, most, d, err)
			}
		}
	}
	refused(t, "three rows", 1, b)
	refused(t, "three rows", 2, b)
	for _, most := range []int{3, 4, 4096} {
		d := loaded(t, "three rows", most, b)
		for i := range most {
			err := api.OK
			if i >= most-3 {
				err = api.ErrFull
			}
			want(t, "one more row", d.Take(plain(int64(i)+1000, 0, 0, 1, int64(i)+1000)), err)
		}
	}
	loaded(t, "no rows", 1, sealed(body(0)))
	loaded(t, "no rows, but an offset", 1, sealed(body(77)))
	greatest := func(n int) []byte {
		var l []dedup.Row
		for i := range n {
			l = append(l, dedup.Row{int64(api.MaxPid - n + i + 1), api.MaxEpoch, api.MaxSeq - 1, 2, api.MaxOffset - 1, api.MaxOffset - 1, api.MaxTime})
		}
		return sealed(body(api.MaxOffset+1, l...))
	}
	for _, n := range []int{0, 1, 4095, 4096} {
		d := loaded(t, "the greatest rows", 4096, greatest(n))
		if len(d.Rows()) != n || len(d.Open()) != n {
			t.Errorf("%d rows, %d open, not %d", len(d.Rows()), len(d.Open()), n)
		}
	}
	refused(t, "too many rows", 4096, greatest(4097))
}

// P7.5: bytes that are cut off anywhere, go on behind the end, or have a byte changed.
func TestLoadSpoilt(t *testing.T) {
	for _, d := range []*dedup.Table{made(t, 9), sample(t)} {
		b := d.Bytes()
		for i := range b {
			refused(t, "cut off", 9, b[:i])
			for _, bit := range []byte{1, 2, 0x10, 0x80, 0xff} {
				c := slices.Clone(b)
				c[i] ^= bit
				refused(t, "changed", 9, c)
			}
		}
		for _, more := range [][]byte{{0}, {1}, {0, 0, 0, 0}, b} {
			refused(t, "goes on", 9, slices.Concat(b, more))
		}
		body := b[4 : len(b)-4]
		for i := range body {
			refused(t, "a body that is cut off", 9, sealed(body[:i]))
		}
		refused(t, "a body that goes on", 9, sealed(append(slices.Clone(body), 0)))
		refused(t, "a body without a frame", 9, body)
	}
	refused(t, "nil", 9, nil)
	refused(t, "empty", 9, []byte{})
	refused(t, "text", 9, []byte("no"))
}

// Rule 8: numbers in another form than their own, and counts of more or less than there is.
func TestLoadForms(t *testing.T) {
	row := []byte{12, 1, 3, 0, 0, 2, 10, 20, 7}
	loaded(t, "a row", 9, sealed(row))
	for i := range row {
		refused(t, "a longer form", 9, sealed(slices.Concat(row[:i], []byte{row[i] | 0x80, 0}, row[i+1:])))
		refused(t, "a number of more than 64 bits", 9, sealed(slices.Concat(row[:i], binary.AppendUvarint(nil, math.MaxUint64)[:9], []byte{2}, row[i+1:])))
	}
	for _, n := range []uint64{0, 2, 9, 10, 1 << 20, 1 << 32, math.MaxInt64, 1 << 63, math.MaxUint64} {
		refused(t, "another count", 9, sealed(slices.Concat(row[:1], binary.AppendUvarint(nil, n), row[2:])))
		if n > 0 {
			refused(t, "a count of what is not there", 9, sealed(slices.Concat(row[:1], binary.AppendUvarint(nil, n))))
		}
	}
	for i := range row {
		for _, n := range []uint64{1<<42 + uint64(row[i]), 1 << 62, 1<<63 - 1, 1 << 63, 1<<63 + uint64(row[i]), math.MaxUint64} {
			refused(t, fmt.Sprintf("number %d is %d", i, n), 9, sealed(slices.Concat(row[:i], binary.AppendUvarint(nil, n), row[i+1:])))
		}
		great := sealed(slices.Concat(row[:i], binary.AppendUvarint(nil, 1<<32+uint64(row[i])), row[i+1:]))
		if i == 0 || i == 8 { // the next offset and the time alone may be as great as that
			loaded(t, "a great number that may be", 9, great)
		} else {
			refused(t, fmt.Sprintf("number %d is great", i), 9, great)
		}
	}
}

// P7.5: each condition at its limits and beyond, by itself.
func TestLoadLimits(t *testing.T) {
	with := func(change func(*dedup.Row)) []dedup.Row {
		r := dedup.Row{Pid: 3, Epoch: 1, Seq: 4, Count: 2, Base: 10, From: 5, Time: 7}
		change(&r)
		return []dedup.Row{r}
	}
	bare := func(change func(*dedup.Row)) []dedup.Row {
		r := dedup.Row{Pid: 3, Epoch: 1, From: -1, Time: 7}
		change(&r)
		return []dedup.Row{r}
	}
	pids := func(l ...int64) []dedup.Row {
		var rows []dedup.Row
		for _, pid := range l {
			rows = append(rows, dedup.Row{Pid: pid, From: -1})
		}
		return rows
	}
	for _, c := range []struct {
		what string
		next int64
		rows []dedup.Row
		ok   bool
	}{
		{"no offset", 0, nil, true},
		{"the last offset", api.MaxOffset + 1, nil, true},
		{"beyond it", api.MaxOffset + 2, nil, false},
		{"below 0", -1, nil, false},

		{"a producer", 0, pids(1), true},
		{"the last producer", 0, pids(api.MaxPid), true},
		{"beyond it", 0, pids(api.MaxPid + 1), false},
		{"nobody", 0, pids(0), false},
		{"below 0", 0, pids(-3), false},
		{"rising", 0, pids(1, 2, 3, api.MaxPid), true},
		{"equal", 0, pids(1, 2, 2), false},
		{"falling", 0, pids(1, 3, 2), false},

		{"epoch 0", 12, with(func(r *dedup.Row) { r.Epoch = 0 }), true},
		{"the last epoch", 12, with(func(r *dedup.Row) { r.Epoch = api.MaxEpoch }), true},
		{"beyond it, with a batch", 12, with(func(r *dedup.Row) { r.Epoch = api.MaxEpoch + 1 }), false},
		{"an epoch below 0", 12, with(func(r *dedup.Row) { r.Epoch = -1 }), false},
		{"epoch 0, without a batch", 0, bare(func(r *dedup.Row) { r.Epoch = 0 }), true},
		{"beyond the last epoch, without a batch", 0, bare(func(r *dedup.Row) { r.Epoch = api.MaxEpoch + 1 }), true},
		{"one further", 0, bare(func(r *dedup.Row) { r.Epoch = api.MaxEpoch + 2 }), false},
		{"an epoch below 0, without a batch", 0, bare(func(r *dedup.Row) { r.Epoch = -1 }), false},

		{"time 0", 12, with(func(r *dedup.Row) { r.Time = 0 }), true},
		{"the last time", 12, with(func(r *dedup.Row) { r.Time = api.MaxTime }), true},
		{"beyond it", 12, with(func(r *dedup.Row) { r.Time = api.MaxTime + 1 }), false},
		{"a time below 0", 12, with(func(r *dedup.Row) { r.Time = -1 }), false},
		{"the last time, without a batch", 0, bare(func(r *dedup.Row) { r.Time = api.MaxTime }), true},
		{"beyond it, without a batch", 0, bare(func(r *dedup.Row) { r.Time = api.MaxTime + 1 }), false},

		{"one record", 12, with(func(r *dedup.Row) { r.Count = 1 }), true},
		{"the most records", 74, with(func(r *dedup.Row) { r.Count = api.MaxRecords }), true},
		{"one more", 99, with(func(r *dedup.Row) { r.Count = api.MaxRecords + 1 }), false},
		{"less than none", 12, with(func(r *dedup.Row) { r.Count = -1 }), false},
		{"no records", 12, with(func(r *dedup.Row) { r.Count = 0 }), false},

		{"no batch", 0, bare(func(r *dedup.Row) {}), true},
		{"no batch, but a number", 12, bare(func(r *dedup.Row) { r.Seq = 1 }), false},
		{"no batch, but an offset", 12, bare(func(r *dedup.Row) { r.Base = 1 }), false},
		{"no batch, but one open at 0", 12, bare(func(r *dedup.Row) { r.From = 0 }), false},
		{"no batch, but one open at -2", 12, bare(func(r *dedup.Row) { r.From = -2 }), false},

		{"number 0", 12, with(func(r *dedup.Row) { r.Seq = 0 }), true},
		{"up to the last number", 12, with(func(r *dedup.Row) { r.Seq = api.MaxSeq - 1 }), true},
		{"beyond it", 12, with(func(r *dedup.Row) { r.Seq = api.MaxSeq }), false},
		{"the last number", 12, with(func(r *dedup.Row) { r.Seq, r.Count = api.MaxSeq, 1 }), true},
		{"behind the last number", 12, with(func(r *dedup.Row) { r.Seq, r.Count = api.MaxSeq+1, 1 }), false},
		{"a number below 0", 12, with(func(r *dedup.Row) { r.Seq = -1 }), false},

		{"up to the next offset", 12, with(func(r *dedup.Row) { r.Base = 10 }), true},
		{"one beyond it", 12, with(func(r *dedup.Row) { r.Base = 11 }), false},
		{"a next offset in the midst", 11, with(func(r *dedup.Row) {}), false},
		{"at offset 0", 2, with(func(r *dedup.Row) { r.Base, r.From = 0, 0 }), true},
		{"below 0", 12, with(func(r *dedup.Row) { r.Base, r.From = -1, -1 }), false},
		{"up to the last offset", api.MaxOffset + 1, with(func(r *dedup.Row) { r.Base = api.MaxOffset - 1 }), true},
		{"beyond the last offset", api.MaxOffset + 1, with(func(r *dedup.Row) { r.Base = api.MaxOffset }), false},
		{"a Base that comes round", 12, with(func(r *dedup.Row) { r.Base = math.MaxInt64 }), false},

		{"none open", 12, with(func(r *dedup.Row) { r.From = -1 }), true},
		{"open from 0 on", 12, with(func(r *dedup.Row) { r.From = 0 }), true},
		{"open from the Base on", 12, with(func(r *dedup.Row) { r.From = 10 }), true},
		{"open from behind it on", 12, with(func(r *dedup.Row) { r.From = 11 }), false},
		{"open below 0", 12, with(func(r *dedup.Row) { r.From = -2 }), false},
		{"open far below 0", 12, with(func(r *dedup.Row) { r.From = math.MinInt64 }), false},
	} {
		b := sealed(body(c.next, c.rows...))
		if c.ok {
			rowsAre(t, c.what, loaded(t, c.what, 5, b).Rows(), c.rows...)
		} else {
			refused(t, c.what, 5, b)
		}
		for _, beside := range []dedup.Row{{Pid: 1, From: -1}, {Pid: 2, Count: 1, From: 0}} { // as the second of two rows
			rows := append([]dedup.Row{beside}, c.rows...)
			if c.ok && c.next > 0 && (len(c.rows) == 0 || c.rows[0].Pid > beside.Pid) {
				loaded(t, c.what+", behind another row", 5, sealed(body(c.next, rows...)))
			} else if !c.ok {
				refused(t, c.what+", behind another row", 5, sealed(body(c.next, rows...)))
			}
		}
	}
}

// Rows that begin at one offset are nothing that Load refuses: they come by their producers.
func TestLoadEqual(t *testing.T) {
	l := []dedup.Row{{Pid: 2, Count: 1, Base: 5, From: 5}, {Pid: 3, Count: 1, Base: 4, From: 4}, {Pid: 7, Count: 1, Base: 5, From: 4}, {Pid: 9, Count: 1, Base: 5, From: 5}}
	d := loaded(t, "equal", 4, sealed(body(6, l...)))
	rowsAre(t, "Open", d.Open(), l[1], l[2], l[0], l[3])
	offsetsAre(t, "equal", d, 4, 6)
}

func TestLoadAny(t *testing.T) {
	rnd := rand.New(rand.NewSource(6))
	fit := 0
	for range 50000 {
		b := make([]byte, 2+7*rnd.Intn(3)+rnd.Intn(2))
		for i := range b {
			b[i] = byte([]int{0, 0, 1, 1, 2, 3, 9, 128, rnd.Intn(256)}[rnd.Intn(9)])
		}
		if rnd.Intn(2) == 0 {
			b[1] = byte(len(b) / 7)
		}
		b = sealed(b)
		d, err := dedup.Load(b, 5)
		if err == api.OK {
			fit++
		}
		if err == api.OK && string(d.Bytes()) != string(b) || err != api.OK && (d != nil || err != api.ErrForm) {
			t.Error(fmt.Sprintf("Load(%x)", b), err, d.Rows())
		}
	}
	if fit < 500 {
		t.Errorf("%d tables of 50000", fit)
	}
}
