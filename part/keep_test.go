package part_test

import (
	"fmt"
	"math"
	"slices"
	"testing"

	"towpath/api"
	"towpath/compact"
	"towpath/dedup"
	"towpath/disk"
	"towpath/iso"
	"towpath/part"
	"towpath/rec"
)

// both puts batches into a partition and a model.
func both(t *testing.T, p *part.Part, m *model, l ...api.Batch) {
	t.Helper()
	puts(t, p, l...)
	for _, b := range l {
		m.put(b)
	}
}

// P10.5: what Snapshot writes, byte by byte.
func TestSnapshot(t *testing.T) {
	d, p := fresh(t, small)
	m := newModel(4)
	want(t, "Snapshot of nothing", p.Snapshot(), api.OK)
	m.snapshot()
	snapIs(t, "nothing", d, m)
	for i, b := range []api.Batch{txn(1, 0, 0, 2), plain("a", 0), abort(1, 0), txn(2, 0, 0, 1), owned(3, 1, 0, 1)} {
		what := fmt.Sprint("behind batch ", i)
		both(t, p, m, b)
		snapIs(t, what+", ahead of Snapshot", d, m)
		before := seen(p)
		want(t, what+": Snapshot", p.Snapshot(), api.OK)
		m.snapshot()
		snapIs(t, what, d, m)
		if seen(p) != before {
			t.Errorf("%s: Snapshot changed the partition", what)
		}
		if names := d.Names("p."); !slices.Equal(names, []string{"p.snap"}) {
			t.Errorf("%s: files %v", what, names)
		}
		same(t, what, opened(t, d.Crash(), small), p)
	}
	raw, _ := d.Read("p.snap")
	if raw[4] != 6 {
		t.Errorf("the offset in the snapshot: %d", raw[4])
	}
}

// P10.5: a file .tmp that is there is not written behind, but removed ahead.
func TestSnapshotOverTmp(t *testing.T) {
	d, p := fresh(t, small)
	m := newModel(4)
	both(t, p, m, txn(1, 0, 0, 2))
	lay(t, d, "p.tmp", []byte("x"))
	want(t, "Snapshot", p.Snapshot(), api.OK)
	m.snapshot()
	snapIs(t, "over .tmp", d, m)
	if _, err := d.Read("p.tmp"); err != api.ErrNone {
		t.Error("the file .tmp is still there")
	}
}

// P10.5: without room nothing changes, and there is no file .tmp; exactly as much room as it takes is enough.
func TestSnapshotFull(t *testing.T) {
	for _, earlier := range []bool{false, true} {
		d, p := fresh(t, small)
		m := newModel(4)
		both(t, p, m, txn(1, 0, 0, 2))
		if earlier {
			want(t, "an earlier Snapshot", p.Snapshot(), api.OK)
			m.snapshot()
		}
		both(t, p, m, plain("a", 0))
		size := len(framed(snapBody(3, m.table.Bytes(), m.view.Bytes())))
		for _, room := range []int{0, d.Used(), d.Used() + 1, d.Used() + size - 1} {
			want(t, "Room", d.Room(room), api.OK)
			before, files := seen(p), content(d)
			want(t, fmt.Sprint("Snapshot with a room of ", room), p.Snapshot(), api.ErrFull)
			if seen(p) != before || content(d) != files {
				t.Errorf("Snapshot without room changed something: %s", content(d))
			}
		}
		want(t, "Room", d.Room(d.Used()+size), api.OK)
		want(t, "Snapshot", p.Snapshot(), api.OK)
		m.snapshot()
		snapIs(t, "in the last room", d, m)
	}
	d, p := fresh(t, small)
	puts(t, p, plain("a", 0))
	for i := range api.MaxFiles - 1 {
		lay(t, d, fmt.Sprint("f", i), nil)
	}
	files := content(d)
	want(t, "Snapshot with as many files as may be", p.Snapshot(), api.ErrFull)
	if content(d) != files {
		t.Error("Snapshot with as many files as may be changed something")
	}
}

// P10.2: without room nothing changes, and Ask tells that it would be taken.
func TestAppendFull(t *testing.T) {
	for _, c := range []struct {
		what string
		b    api.Batch
	}{
		{"records", txn(1, 0, 1, 1)}, {"a marker", commit(1, 0)}, {"a new producer", owned(2, 0, 0, 1)}, {"nobody's", plain("a", 9)},
	} {
		for n := range 4 { // with the last segment empty, half full and full
			d, p := fresh(t, small)
			puts(t, p, txn(1, 0, 0, 1))
			for i := range n {
				puts(t, p, plain("b", i))
			}
			what := fmt.Sprint(c.what, " behind ", n)
			want(t, "Room", d.Room(d.Used()+rec.Size(c.b)+7), api.OK)
			before, files, next := seen(p), content(d), p.Next()
			if again, err := p.Ask(c.b); again || err != api.OK {
				t.Errorf("%s: Ask: %v, %d", what, again, err)
			}
			if at, again, err := put(p, c.b); at != 0 || again || err != api.ErrFull {
				t.Errorf("%s: %d, %v, %d", what, at, again, err)
			}
			if seen(p) != before || content(d) != files {
				t.Errorf("%s: without room something changed", what)
			}
			same(t, what+", behind a crash", opened(t, d.Crash(), small), p)
			want(t, "Room", d.Room(1<<16), api.OK)
			takes(t, what+", with room again", d, p, c.b, next, false, api.OK)
		}
	}
	d, p := fresh(t, small)
	puts(t, p, txn(1, 0, 0, 1), commit(2, 0))
	want(t, "Room", d.Room(0), api.OK)
	takes(t, "there already, without room", d, p, txn(1, 0, 0, 1), 0, true, api.OK)
	takes(t, "refused, without room", d, p, txn(1, 0, 2, 1), 0, false, api.ErrOrder)
	takes(t, "a marker that is there already, without room", d, p, commit(2, 0), -1, true, api.OK)
}

// P10.5: rows go, and stay away behind a crash; a snapshot is written anyway.
func TestExpire(t *testing.T) {
	build := func() (*disk.Disk, *part.Part, *model) {
		d, p := fresh(t, small)
		m := newModel(4)
		late := owned(2, 0, 0, 1)
		late.Time = 9
		both(t, p, m, txn(1, 0, 0, 1), commit(1, 0), late, txn(3, 0, 0, 1), abort(4, 1))
		return d, p, m
	}
	for _, c := range []struct {
		time int64
		n    int
	}{
		{math.MinInt64, 0}, {-1, 0}, {0, 0}, {5, 0}, {6, 2}, {9, 2}, {10, 3}, {math.MaxInt64, 3},
	} {
		what := fmt.Sprint("Expire ", c.time)
		d, p, m := build()
		if n, err := p.Expire(c.time); n != c.n || m.expire(c.time) != c.n || err != api.OK {
			t.Errorf("%s: %d, %d", what, n, err)
		}
		snapIs(t, what, d, m)
		if !matches(p, m) || p.Stable() != 3 {
			t.Errorf("%s: another partition than the model", what)
		}
		q := opened(t, d.Crash(), small)
		same(t, what+", behind a crash", q, p)
		if again, err := q.Ask(commit(1, 0)); again != (c.n == 0) || err != api.OK {
			t.Errorf("%s: Ask of a marker that was there: %v, %d", what, again, err)
		}
		if n, err := p.Expire(c.time); n != 0 || err != api.OK {
			t.Errorf("%s again: %d, %d", what, n, err)
		}
	}
	d, p, _ := build()
	takes(t, "a producer too many", d, p, owned(5, 0, 0, 1), 0, false, api.ErrFull)
	p.Expire(6)
	takes(t, "with room again", d, p, owned(5, 0, 0, 1), 5, false, api.OK)
}

// P10.5: with an error no row has expired.
func TestExpireFull(t *testing.T) {
	d, p := fresh(t, small)
	puts(t, p, txn(1, 0, 0, 1), commit(1, 0), owned(2, 0, 0, 1))
	want(t, "Room", d.Room(d.Used()+3), api.OK)
	before, files := seen(p), content(d)
	if n, err := p.Expire(99); n != 0 || err != api.ErrFull {
		t.Errorf("Expire: %d, %d", n, err)
	}
	if seen(p) != before || content(d) != files {
		t.Error("Expire without room changed something")
	}
	same(t, "behind a crash", opened(t, d.Crash(), small), p)
	want(t, "Room", d.Room(1<<16), api.OK)
	if n, err := p.Expire(99); n != 2 || err != api.OK {
		t.Errorf("Expire with room: %d, %d", n, err)
	}
}

// rows are some plain batches of the key a, each a record.
func rows(n int) []api.Batch {
	var l []api.Batch
	for i := range n {
		l = append(l, plain("a", i))
	}
	return l
}

// compacts holds what Compact answers, what it leaves and what a crash leaves against the model.
func compacts(t *testing.T, what string, d *disk.Disk, p *part.Part, m *model, horizon int64, removed int) {
	t.Helper()
	border := m.border(bases(d))
	before, above := m.committed(p.Next()), from(m.committed(p.Next()), border)
	next, stable := p.Next(), p.Stable()
	if n, err := p.Compact(horizon); n != removed || n != m.compact(horizon, ahead(border)) || err != api.OK {
		t.Errorf("%s: Compact(%d): %d, %d, not %d", what, horizon, n, err, removed)
	}
	snapIs(t, what, d, m)
	if p.Next() != next || p.Stable() != stable {
		t.Errorf("%s: Next %d, Stable %d, not %d, %d", what, p.Next(), p.Stable(), next, stable)
	}
	for _, q := range []*part.Part{p, opened(t, d.Crash(), small)} {
		agrees(t, what, q, m)
		l, _, _ := q.Read(0, 9999, true)
		if !table(t, l).Same(table(t, before)) {
			t.Errorf("%s: another table than before: %v, not %v", what, l, before)
		}
		if got := from(l, border); !slices.Equal(got, above) {
			t.Errorf("%s: from the border %d on: %v, not %v", what, border, got, above)
		}
	}
	if m.snap != nil {
		same(t, what+", behind a crash", opened(t, d.Crash(), small), p)
	}
}

// ahead are the bases that Compact found, as far as they matter.
func ahead(border int64) []int64 {
	if border == 0 {
		return nil
	}
	return []int64{0, border}
}

func from(l []rec.At, offset int64) []rec.At {
	return slices.DeleteFunc(slices.Clone(l), func(r rec.At) bool { return r.Offset < offset })
}

func table(t *testing.T, l []rec.At) *compact.Table {
	t.Helper()
	x := compact.New()
	if err := x.Apply(l...); err != api.OK {
		t.Fatalf("Apply(%v): %d", l, err)
	}
	return x
}

// P10.6: no segment that may go: nothing happens, not even a snapshot.
func TestCompactNothing(t *testing.T) {
	for _, c := range []struct {
		what string
		l    []api.Batch
	}{
		{"nothing", nil},
		{"one segment", rows(1)},
		{"two batches in one segment", rows(2)},
		{"a transaction from the first segment on", append([]api.Batch{txn(1, 0, 0, 1)}, rows(9)...)},
		{"a transaction from the last of the first segment on", append([]api.Batch{plain("b", 0), txn(1, 0, 0, 1)}, rows(9)...)},
	} {
		d, p := fresh(t, small)
		puts(t, p, c.l...)
		before, files := seen(p), content(d)
		if n, err := p.Compact(99); n != 0 || err != api.OK {
			t.Errorf("%s: Compact: %d, %d", c.what, n, err)
		}
		if seen(p) != before || content(d) != files {
			t.Errorf("%s: Compact changed something: %s", c.what, content(d))
		}
	}
}

// P10.6: one segment, and more, with what is left counted by hand.
func TestCompact(t *testing.T) {
	for _, c := range []struct {
		what    string
		l       []api.Batch
		horizon int64
		removed int
		left    []int64 // the offsets of records below the border
		border  int64
	}{
		{"one closed segment", rows(3), 0, 1, []int64{1}, 2},
		{"two closed segments", rows(5), 0, 3, []int64{3}, 4},
		{"four closed segments", rows(9), 0, 7, []int64{7}, 8},
		{"no key twice", []api.Batch{plain("a", 0), plain("b", 0), plain("c", 0)}, 0, 0, []int64{0, 1}, 2},
		{"the last segment does not count", []api.Batch{plain("a", 0), plain("b", 0), plain("a", 1)}, 0, 0, []int64{0, 1}, 2},
		{"a transaction from the last segment on", append(rows(4), txn(1, 0, 0, 1)), 0, 3, []int64{3}, 4},
		{"a transaction that is older than the last segment", append(rows(4), txn(1, 0, 0, 1), plain("b", 0), plain("c", 0), plain("d", 0)), 0, 3, []int64{3}, 4},
	} {
		d, p := fresh(t, small)
		m := newModel(4)
		both(t, p, m, c.l...)
		if border := m.border(bases(d)); border != c.border {
			t.Fatalf("%s: the border is %d, not %d", c.what, border, c.border)
		}
		compacts(t, c.what, d, p, m, c.horizon, c.removed)
		var left []int64
		for _, r := range rec.Flat(p.Batches()...) {
			if r.Offset < c.border {
				left = append(left, r.Offset)
			}
		}
		if !slices.Equal(left, c.left) {
			t.Errorf("%s: left: %v, not %v", c.what, left, c.left)
		}
		if l := bases(d); len(l) < 2 || l[0] != 0 || l[1] != c.border || slices.Max(l) != p.Segments()[len(l)-1] {
			t.Errorf("%s: segments %v", c.what, l)
		}
		compacts(t, c.what+", again", d, p, m, c.horizon, 0)
		both(t, p, m, txn(4, 0, 0, 2), commit(4, 0))
		agrees(t, c.what+", gone on", p, m)
	}
}

// P10.6: aborted records go and are counted; markers go and are not; the packed batches are plain.
func TestCompactTransactions(t *testing.T) {
	d, p := fresh(t, small)
	m := newModel(4)
	both(t, p, m, txn(1, 0, 0, 2), txn(2, 0, 0, 1), abort(1, 0), plain("a", 0), commit(2, 0), plain("b", 0), owned(3, 0, 0, 1), plain("c", 0))
	border := m.border(bases(d))
	if border != 8 {
		t.Fatalf("the border is %d: %v", border, bases(d))
	}
	compacts(t, "transactions", d, p, m, 0, 2)
	for _, b := range p.Batches() {
		if b.Base < border && (b.Pid != 0 || b.Kind != api.Plain) {
			t.Errorf("a batch that was not packed: %v", b)
		}
	}
	takes(t, "an epoch that ended", d, p, txn(1, 0, 2, 1), 0, false, api.ErrFenced)
	takes(t, "a marker that was there", d, p, commit(2, 0), -1, true, api.OK)
	takes(t, "a batch that is there", d, p, owned(3, 0, 0, 1), 7, true, api.OK)
	q := opened(t, d.Crash(), small)
	takes(t, "an epoch that ended, behind a crash", d, q, txn(1, 0, 2, 1), 0, false, api.ErrFenced)
	takes(t, "a batch that is there, behind a crash", d, q, owned(3, 0, 0, 1), 7, true, api.OK)
}

// P10.6: records that are Gone go if they are below the horizon.
func TestCompactHorizon(t *testing.T) {
	away := api.Batch{Time: 5, L: []api.Record{{Key: "a", Gone: true, Time: 5}}}
	for _, c := range []struct {
		horizon int64
		removed int
	}{
		{0, 1}, {5, 1}, {6, 2}, {math.MaxInt64, 2}, {math.MinInt64, 1},
	} {
		d, p := fresh(t, small)
		m := newModel(4)
		both(t, p, m, plain("a", 0), away, plain("b", 0))
		compacts(t, fmt.Sprint("horizon ", c.horizon), d, p, m, c.horizon, c.removed)
	}
	d, p := fresh(t, small)
	m := newModel(4)
	both(t, p, m, plain("a", 0), away, plain("b", 0))
	compacts(t, "a horizon of 0", d, p, m, 0, 1)
	compacts(t, "then a later one", d, p, m, 9, 1)
	if first := p.Batches()[0]; first.Base != 2 || p.First() != 0 {
		t.Errorf("the first batch is %v", first)
	}
	reads(t, "from what went", p, 0, 9, true, 3, 2)
	reads(t, "from within what went", p, 1, 9, false, 3, 2)
}

// P10.6: the view forgets what was aborted ahead of the border, and only that.
func TestCompactForgets(t *testing.T) {
	build := func(l ...api.Batch) (*disk.Disk, *part.Part) {
		d, p := fresh(t, small)
		puts(t, p, l...)
		p.Expire(99) // so that the table does not fence what the view knows
		return d, p
	}
	d, p := build(txn(1, 0, 0, 1), abort(1, 0), plain("a", 0), plain("a", 1), plain("a", 2))
	takes(t, "ahead of Compact", d, p, txn(1, 0, 0, 1), 0, false, api.ErrFenced)
	if n, err := p.Compact(0); n != 2 || err != api.OK {
		t.Errorf("Compact: %d, %d", n, err)
	}
	takes(t, "behind Compact", d, p, txn(1, 0, 0, 1), 5, false, api.OK)

	// The border is 4, where the marker is, so that it stays.
	d, p = build(plain("a", 0), plain("a", 1), plain("a", 2), txn(1, 0, 0, 1), abort(1, 0), plain("a", 3))
	if l := p.Segments(); !slices.Equal(l, []int64{0, 2, 4}) {
		t.Fatalf("segments %v", l)
	}
	if n, err := p.Compact(0); n != 3 || err != api.OK {
		t.Errorf("Compact: %d, %d", n, err)
	}
	takes(t, "a marker from the border on", d, p, txn(1, 0, 0, 1), 0, false, api.ErrFenced)
	want(t, "Snapshot", p.Snapshot(), api.OK)
	takes(t, "behind a snapshot and a crash", d, opened(t, d, small), txn(1, 0, 0, 1), 0, false, api.ErrFenced)
}

// P10.6: a transaction that was aborted across the border: its records below go, those above stay fallen.
func TestCompactAcross(t *testing.T) {
	d, p := fresh(t, small)
	m := newModel(4)
	both(t, p, m, plain("a", 0), txn(1, 0, 0, 1), plain("b", 0), txn(1, 0, 1, 1), txn(1, 0, 2, 1), abort(1, 0))
	if l := bases(d); !slices.Equal(l, []int64{0, 2, 4}) {
		t.Fatalf("segments %v", l)
	}
	compacts(t, "across", d, p, m, 0, 2)
	reads(t, "all that stands", p, 0, 9, true, 6, 0, 2)
	reads(t, "from the border on", p, 4, 9, false, 6, 4)
}

// P10.6: no room for the snapshot, then none for the segment: 0, and what is committed stays.
func TestCompactFull(t *testing.T) {
	d, p := fresh(t, small)
	m := newModel(4)
	l := append(rows(9), txn(1, 0, 0, 1), commit(1, 0), txn(2, 0, 0, 1), abort(2, 0), plain("b", 0), plain("b", 1), plain("b", 2))
	both(t, p, m, l...)
	size := len(framed(snapBody(uint64(p.Next()), m.table.Bytes(), m.view.Bytes())))
	used := d.Used()
	want(t, "Room", d.Room(used+size-1), api.OK)
	before, files := seen(p), content(d)
	if n, err := p.Compact(0); n != 0 || err != api.ErrFull || seen(p) != before || content(d) != files {
		t.Errorf("Compact without room for a snapshot: %d, %d, %s", n, err, content(d))
	}
	want(t, "Room", d.Room(used+size), api.OK)
	if n, err := p.Compact(0); n != 0 || err != api.ErrFull || seen(p) != before {
		t.Errorf("Compact without room for a segment: %d, %d", n, err)
	}
	m.snapshot()
	snapIs(t, "without room for a segment", d, m)
	if got := d.Names("p"); slices.ContainsFunc(got, func(s string) bool { return s == "p.tmp" || s[len(s)-4:] == ".new" }) {
		t.Errorf("files %v", got)
	}
	same(t, "behind a crash", opened(t, d.Crash(), small), p)
	want(t, "Room", d.Room(1<<16), api.OK)
	compacts(t, "with room again", d, p, m, 0, 10)
}

// P10.1, P10.6: a snapshot that is lost behind Compact: what was packed is plain, and stays committed.
func TestCompactWithoutSnapshot(t *testing.T) {
	d, p := fresh(t, small)
	puts(t, p, txn(1, 0, 0, 1), commit(1, 0), txn(2, 0, 0, 1), abort(2, 0), plain("a", 0), plain("a", 1), plain("a", 2))
	before, _, _ := p.Read(0, 99, true)
	if n, err := p.Compact(0); n == 0 || err != api.OK {
		t.Fatalf("Compact: %d, %d", n, err)
	}
	c := d.Crash()
	c.Remove("p.snap")
	q := opened(t, c, small)
	after, _, _ := q.Read(0, 99, true)
	if !table(t, after).Same(table(t, before)) || q.Stable() != q.Next() || q.Next() != 7 {
		t.Errorf("without a snapshot: %v, not %v", after, before)
	}
}

// The greatest table and view fit into a snapshot: ErrLong is not to be had.
func TestSnapshotGreatest(t *testing.T) {
	d, _ := disk.New(api.MaxDisk)
	c := wide
	c.Producers = 1024
	lastSeq, top := api.MaxSeq-api.MaxRecords+1, int64(api.MaxOffset)
	numbersOf := func(l ...int64) []byte {
		var b []byte
		for _, n := range l {
			b = append(b, number(uint64(n))...)
		}
		return b
	}
	rowsOf, txns := numbersOf(top, 1024), numbersOf(top, 1024)
	for i := range int64(1024) {
		rowsOf = append(rowsOf, numbersOf(api.MaxPid-1023+i, api.MaxEpoch, int64(lastSeq), 64, top-64, 2*(top-64), api.MaxTime)...)
		txns = append(txns, numbersOf(api.MaxPid-i, api.MaxEpoch, top-9000+i)...)
	}
	txns = append(txns, number(4096)...)
	for i := range int64(4096) {
		txns = append(txns, numbersOf(api.MaxPid-2000-i, api.MaxEpoch, top-9000, top-4096+i)...)
	}
	lay(t, d, "p-10000000000.log", framed(append(append([]byte{83}, number(uint64(top))...), 0)))
	lay(t, d, "p.snap", framed(snapBody(uint64(top), framed(rowsOf), framed(txns))))
	if x, err := dedup.Load(framed(rowsOf), 1024); err != api.OK || len(x.Rows()) != 1024 {
		t.Fatal("dedup.Load", err)
	}
	if v, err := iso.Load(framed(txns)); err != api.OK || len(v.Fallen()) != 4096 {
		t.Fatal("iso.Load", err)
	}
	p := opened(t, d, c)
	if _, err := p.Ask(owned(api.MaxPid, 0, 0, 1)); err != api.ErrFenced {
		t.Errorf("the greatest snapshot was not used: %d", err)
	}
	files := content(d)
	want(t, "Snapshot", p.Snapshot(), api.OK)
	if content(d) != files {
		t.Error("the snapshot is another one")
	}
}
