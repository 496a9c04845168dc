package part_test

import (
	"bytes"
	"fmt"
	"math"
	"math/rand"
	"slices"
	"testing"

	"towpath/api"
	"towpath/dedup"
	"towpath/disk"
	"towpath/iso"
	"towpath/part"
	"towpath/rec"
	"towpath/seglog"
)

// P10.1: the errors of Open, ahead of each other.
func TestOpenErrors(t *testing.T) {
	d, gone := newDisk(t), newDisk(t)
	gone.Fuse(0)
	config := func(seg, gap, producers int) part.Config {
		return part.Config{Config: seglog.Config{Seg: seg, Gap: gap}, Producers: producers}
	}
	for _, c := range []struct {
		what   string
		d      *disk.Disk
		prefix string
		c      part.Config
		err    api.Errno
	}{
		{"no producers", d, "p", config(64, 1, 0), api.ErrArg},
		{"producers below 0", d, "p", config(64, 1, -1), api.ErrArg},
		{"producers far below 0", d, "p", config(64, 1, math.MinInt), api.ErrArg},
		{"one producer", d, "p", config(64, 1, 1), api.OK},
		{"as many producers as may be", d, "p", config(64, 1, 1024), api.OK},
		{"a producer too many", d, "p", config(64, 1, 1025), api.ErrArg},
		{"far too many", d, "p", config(64, 1, math.MaxInt), api.ErrArg},
		{"no producers on no disk", nil, "p", config(64, 1, 0), api.ErrArg},
		{"no producers on a disk without power", gone, "p", config(64, 1, 0), api.ErrArg},
		{"no disk", nil, "p", small, api.ErrNil},
		{"no disk, and no prefix", nil, "", config(1, 1, 4), api.ErrNil},
		{"no prefix", d, "", small, api.ErrArg},
		{"a prefix of nine letters", d, "abcdefghi", small, api.ErrArg},
		{"a prefix of eight letters", d, "abcdefgh", small, api.OK},
		{"a prefix with a point", d, "p.", small, api.ErrArg},
		{"too small a segment", d, "p", config(63, 1, 4), api.ErrArg},
		{"too great a segment", d, "p", config(api.MaxDisk+1, 1, 4), api.ErrArg},
		{"no gap", d, "p", config(64, 0, 4), api.ErrArg},
		{"too small a segment on a disk without power", gone, "p", config(63, 1, 4), api.ErrArg},
		{"a disk without power", gone, "p", small, api.ErrDown},
	} {
		p, err := part.Open(c.d, c.prefix, c.c)
		want(t, c.what, err, c.err)
		if (p != nil) != (c.err == api.OK) {
			t.Errorf("%s: %v beside %d", c.what, p, err)
		}
	}
	if d.Used() != 0 || len(d.Names("")) != 0 {
		t.Errorf("Open made files: %s", content(d))
	}
}

// A disk without files is a partition without batches.
func TestOpenEmpty(t *testing.T) {
	d, p := fresh(t, small)
	agrees(t, "a new partition", p, newModel(4))
	if len(d.Names("")) != 0 {
		t.Errorf("Open made files: %s", content(d))
	}
	if n, err := p.Compact(9); n != 0 || err != api.OK || len(d.Names("")) != 0 {
		t.Errorf("Compact: %d, %d", n, err)
	}
}

// laid is a disk with a log of five offsets.
func laid(t *testing.T) *disk.Disk {
	t.Helper()
	d, p := fresh(t, small)
	puts(t, p, txn(1, 0, 0, 1), commit(1, 0), plain("a", 0), plain("a", 1), owned(2, 0, 0, 1))
	return d
}

// forged are bytes of a table and a view with these next offsets. The table knows of producer 6 that it has come to epoch 3; the view, that it has a transaction open if its next offset is not 0.
func forged(t *testing.T, tableNext, viewNext int64) ([]byte, []byte) {
	t.Helper()
	table, _ := dedup.New(4)
	if tableNext > 0 {
		b := commit(6, 2)
		b.Base = tableNext - 1
		want(t, "dedup.Take", table.Take(b), api.OK)
	}
	view := iso.New()
	if viewNext > 0 {
		b := txn(7, 2, 0, 1)
		b.Base = viewNext - 1
		want(t, "iso.Take", view.Take(b), api.OK)
	}
	return table.Bytes(), view.Bytes()
}

// used reports whether a partition has taken a snapshot that forged made.
func used(t *testing.T, p *part.Part) bool {
	t.Helper()
	_, err := p.Ask(txn(6, 0, 0, 1))
	_, err2 := p.Ask(txn(7, 0, 0, 1))
	switch {
	case err == api.ErrFenced && err2 == api.ErrState:
		return true
	case err != api.OK || err2 != api.OK:
		t.Errorf("a snapshot that was used in part: %d, %d", err, err2)
	}
	return false
}

// plainly is the partition of a disk that has no snapshot.
func plainly(t *testing.T, d *disk.Disk) *part.Part {
	t.Helper()
	c := d.Crash()
	c.Remove("p.snap")
	return opened(t, c, small)
}

// P10.1: between which offsets that of a snapshot must be.
func TestSnapshotOffset(t *testing.T) {
	for _, c := range []struct {
		table, view int64
		offset      uint64
		used        bool
	}{
		{2, 1, 1, false}, {2, 1, 2, true}, {2, 1, 3, true}, {1, 2, 1, false}, {1, 2, 2, true}, {1, 1, 0, false},
		{3, 3, 2, false}, {3, 3, 3, true}, {3, 3, 4, true}, {3, 3, 5, true}, {3, 3, 6, false}, {5, 5, 4, false}, {5, 5, 5, true},
		{5, 5, 6, false}, {6, 5, 5, false}, {5, 6, 5, false}, {6, 6, 6, false},
		{1, 1, api.MaxOffset, false}, {1, 1, api.MaxOffset + 1, false}, {1, 1, math.MaxInt64, false}, {1, 1, 1 << 63, false}, {1, 1, math.MaxUint64, false},
	} {
		d := laid(t)
		table, view := forged(t, c.table, c.view)
		lay(t, d, "p.snap", framed(snapBody(c.offset, table, view)))
		files := content(d)
		p := opened(t, d, small)
		what := fmt.Sprint(c)
		if used(t, p) != c.used {
			t.Errorf("%s: used: %v", what, !c.used)
		}
		if content(d) != files {
			t.Errorf("%s: Open changed files", what)
		}
		if !c.used {
			same(t, what, p, plainly(t, d))
			continue
		}
		// Only the batches from that offset on are applied: the Commit at 1, the last batch at 4.
		if _, err := p.Ask(txn(1, 0, 1, 1)); (err == api.ErrFenced) != (c.offset <= 1) {
			t.Errorf("%s: the batch at 1: %d", what, err)
		}
		if again, _ := p.Ask(owned(2, 0, 0, 1)); again != (c.offset <= 4) {
			t.Errorf("%s: the batch at 4: %v", what, again)
		}
	}
}

// P10.1: a snapshot from ahead of the log's first offset is none; a stable offset is not below that one.
func TestSnapshotFirst(t *testing.T) {
	trimmed := func() *disk.Disk {
		d := laid(t)
		l, _ := seglog.Open(d, "p", small.Config)
		if n, err := l.Trim(2); n != 1 || err != api.OK || l.First() != 2 {
			t.Fatalf("Trim: %d, %d, First %d", n, err, l.First())
		}
		return d
	}
	for offset, wanted := range []bool{false, false, true, true, true, true, false} {
		d := trimmed()
		table, view := forged(t, 1, 1)
		lay(t, d, "p.snap", framed(snapBody(uint64(offset), table, view)))
		p := opened(t, d, small)
		if used(t, p) != wanted {
			t.Errorf("an offset of %d, of a log from 2 on: used: %v", offset, !wanted)
		}
		stable := int64(5)
		if wanted {
			stable = 2 // the view has one open from 0 on
			reads(t, "with a transaction from ahead of the log", p, 2, 9, true, 2)
		}
		if p.Stable() != stable || p.First() != 2 {
			t.Errorf("an offset of %d: Stable %d, First %d", offset, p.Stable(), p.First())
		}
		if l, next, err := p.Read(1, 9, false); len(l) > 0 || next != 0 || err != api.ErrRange {
			t.Errorf("Read below the first offset: %v, %d, %d", l, next, err)
		}
	}
}

// P10.4: without an open transaction the stable offset is the log's next, whatever the view has seen.
func TestStableOfLog(t *testing.T) {
	d := laid(t)
	table, view := forged(t, 1, 0)
	lay(t, d, "p.snap", framed(snapBody(5, table, view)))
	if p := opened(t, d, small); p.Stable() != 5 {
		t.Errorf("Stable: %d", p.Stable())
	}
}

// P10.1: a batch that begins below the offset of the snapshot is not applied, even if it ends above.
func TestSnapshotWithinBatch(t *testing.T) {
	d, p := fresh(t, small)
	puts(t, p, owned(1, 0, 0, 3), owned(2, 0, 0, 1))
	table, view := forged(t, 0, 0)
	for offset, again := range []bool{true, false, false, false} {
		lay(t, d, "p.snap", framed(snapBody(uint64(offset), table, view)))
		q := opened(t, d.Crash(), small)
		if got, err := q.Ask(owned(1, 0, 0, 3)); got != again || err != api.OK {
			t.Errorf("a snapshot at %d: %v, %d", offset, got, err)
		}
		if got, err := q.Ask(owned(2, 0, 0, 1)); !got || err != api.OK {
			t.Errorf("a snapshot at %d, the next batch: %v, %d", offset, got, err)
		}
	}
}

// P10.1: files that are no snapshot: all batches are applied to an empty table and view.
func TestNoSnapshot(t *testing.T) {
	table, view := forged(t, 1, 1)
	empty, _ := forged(t, 0, 0)
	good := snapBody(3, table, view)
	five, _ := dedup.New(5)
	for pid := range int64(5) {
		b := commit(6-pid, 2)
		b.Base = five.Next()
		five.Take(b)
	}
	spoilt := func(b []byte) []byte { c := slices.Clone(b); c[len(c)-5] ^= 1; return c }
	cases := map[string][]byte{
		"no bytes":                          {},
		"no frame":                          good,
		"two frames":                        append(framed(good), framed(good)...),
		"a byte behind the frame":           append(framed(good), 0),
		"a byte behind the view":            framed(append(slices.Clone(good), 0)),
		"an empty body":                     framed(nil),
		"an offset alone":                   framed([]byte{3}),
		"no view":                           framed(good[:len(good)-len(view)-1]),
		"a view cut off":                    framed(good[:len(good)-1]),
		"an offset in a longer form":        framed(append([]byte{0x83, 0}, good[1:]...)),
		"a table that is spoilt":            framed(snapBody(3, spoilt(table), view)),
		"a view that is spoilt":             framed(snapBody(3, table, spoilt(view))),
		"an empty table":                    framed(snapBody(3, nil, view)),
		"an empty view":                     framed(snapBody(3, table, nil)),
		"a table in the place of the view":  framed(snapBody(3, table, empty)),
		"a view in the place of the table":  framed(snapBody(3, view, view)),
		"table and view exchanged":          framed(snapBody(3, view, table)),
		"a table of a producer too many":    framed(snapBody(5, five.Bytes(), view)),
		"a string longer than a frame":      framed([]byte{3, 0x81, 0x80, 0x10, 1}),
		"strings of a length beyond number": framed([]byte{3, 0xff, 0xff, 0xff, 0xff, 0xff, 0xff, 0xff, 0xff, 0xff, 1, 1}),
	}
	whole := framed(good)
	for i := range whole {
		cases[fmt.Sprint("cut off at ", i)] = whole[:i]
		for _, bit := range []byte{1, 128} {
			c := slices.Clone(whole)
			c[i] ^= bit
			cases[fmt.Sprint("byte ", i, " changed by ", bit)] = c
		}
	}
	for what, raw := range cases {
		d := laid(t)
		lay(t, d, "p.snap", raw)
		p := opened(t, d, small)
		if used(t, p) {
			t.Errorf("%s: used", what)
		}
		same(t, what, p, plainly(t, d))
		if got, _ := d.Read("p.snap"); !bytes.Equal(got, raw) {
			t.Errorf("%s: Open changed the file", what)
		}
		want(t, what+": Snapshot", p.Snapshot(), api.OK)
		same(t, what+", then with another snapshot", opened(t, d.Crash(), small), p)
	}
	d := laid(t)
	lay(t, d, "p.snap", whole)
	if !used(t, opened(t, d, small)) {
		t.Error("the snapshot without a fault was not used")
	}
	lay(t, d, "p.snap", framed(snapBody(5, five.Bytes(), view)))
	c := small
	c.Producers = 5
	if _, err := opened(t, d, c).Ask(txn(6, 0, 0, 1)); err != api.ErrFenced {
		t.Error("the table with room for its rows was not used")
	}
}

// P10.2: what the view refuses though the table does not, as a snapshot says of both what does not fit together.
func TestForgedState(t *testing.T) {
	d := laid(t)
	table, view := forged(t, 5, 5)
	lay(t, d, "p.snap", framed(snapBody(5, table, view)))
	p := opened(t, d, small)
	if p.Stable() != 4 {
		t.Errorf("Stable: %d", p.Stable())
	}
	takes(t, "another epoch than the view has open", d, p, txn(7, 3, 0, 1), 0, false, api.ErrState)
	takes(t, "a marker of another epoch", d, p, commit(7, 1), 0, false, api.ErrState)
	takes(t, "that epoch, which the table does not know", d, p, txn(7, 2, 0, 1), 5, false, api.OK)
	takes(t, "its marker", d, p, commit(7, 2), 6, false, api.OK)
	if p.Stable() != 7 {
		t.Errorf("Stable: %d", p.Stable())
	}
}

// P10.1: a file .tmp is removed, and no other one.
func TestTmp(t *testing.T) {
	d := laid(t)
	p := opened(t, d, small)
	want(t, "Snapshot", p.Snapshot(), api.OK)
	others := []string{"p.tmpx", "pp.tmp", "p.tm", "p-tmp", "x.tmp"}
	for _, name := range others {
		lay(t, d, name, []byte("x"))
	}
	files := content(d)
	for _, raw := range []string{"", "x", string(make([]byte, 300))} {
		lay(t, d, "p.tmp", []byte(raw))
		same(t, "with a file .tmp", opened(t, d, small), p)
		if content(d) != files {
			t.Errorf("with a file .tmp: %s, not %s", content(d), files)
		}
	}
	d.Append("p.tmp", []byte("not durable"))
	same(t, "with a file .tmp that is not durable", opened(t, d.Crash(), small), p)
}

// P10.1: an error of the disk while .tmp is removed.
func TestTmpDown(t *testing.T) {
	d := laid(t)
	names := d.Names("p-")
	d.Append(names[len(names)-1], []byte("torn"))
	d.Append("p.tmp", []byte("x"))
	for fuse, err := range []api.Errno{api.ErrDown, api.ErrDown, api.OK} {
		c := d.Crash(99)
		c.Fuse(fuse)
		p, got := part.Open(c, "p", small)
		want(t, fmt.Sprint("Open with a fuse of ", fuse), got, err)
		if (p == nil) != (err != api.OK) {
			t.Errorf("Open with a fuse of %d: %v beside %d", fuse, p, got)
		}
		same(t, fmt.Sprint("behind a fuse of ", fuse), opened(t, c.Crash(), small), opened(t, laid(t), small))
	}
}

// P10.12: whatever the files contain, a partition opens, goes on, and opens again as it was.
func TestCorrupt(t *testing.T) {
	rnd := rand.New(rand.NewSource(6))
	for round := range 300 {
		what := fmt.Sprint("round ", round)
		d, p := fresh(t, small)
		m := newModel(4)
		for range rnd.Intn(25) {
			b := someBatch(rnd, m)
			m.put(b)
			put(p, b)
			switch rnd.Intn(12) {
			case 0:
				p.Snapshot()
			case 1:
				p.Compact(int64(rnd.Intn(20)))
			}
		}
		for range 1 + rnd.Intn(3) {
			spoil(t, rnd, d)
		}
		q := opened(t, d, small)
		same(t, what+": opened again", opened(t, d.Crash(), small), q)
		goesOn(t, what, rnd, d, q)
	}
}

// spoil changes one of the partition's files, or lays one there.
func spoil(t *testing.T, rnd *rand.Rand, d *disk.Disk) {
	t.Helper()
	names := append(d.Names("p"), "p.snap", "p.tmp", "p-00000000000.log", "p-00000000005.log", "p-00000000005.new")
	name := names[rnd.Intn(len(names))]
	raw, _ := d.Read(name)
	switch rnd.Intn(6) {
	case 0:
		raw = raw[:rnd.Intn(len(raw)+1)]
	case 1:
		raw = append(raw, make([]byte, rnd.Intn(20))...)
	case 2:
		rnd.Read(raw)
	case 3:
		raw = framed(raw)
	case 4:
		table, view := forged(t, int64(rnd.Intn(5)), int64(rnd.Intn(5)))
		raw = framed(snapBody(uint64(rnd.Intn(30)), table, view))
	default:
		if len(raw) > 0 {
			raw[rnd.Intn(len(raw))] ^= 1 << rnd.Intn(8)
		}
	}
	lay(t, d, name, raw)
}

// goesOn lets a partition of any files do all that it does. What it acknowledged is there behind a crash.
func goesOn(t *testing.T, what string, rnd *rand.Rand, d *disk.Disk, p *part.Part) {
	t.Helper()
	m := newModel(4)
	for range 12 {
		b := someBatch(rnd, m)
		m.put(b)
		again, err := p.Ask(b)
		next := p.Next()
		at, a, e := put(p, b)
		if again != a || err != e || err == api.OK && !again && at != next {
			t.Errorf("%s: put of %v: %d, %v, %d, Ask %v, %d", what, b, at, a, e, again, err)
		}
	}
	want(t, what+": Snapshot", p.Snapshot(), api.OK)
	same(t, what+": behind a snapshot", opened(t, d.Crash(), small), p)
	if _, err := p.Expire(9); err != api.OK {
		t.Errorf("%s: Expire: %d", what, err)
	}
	same(t, what+": behind Expire", opened(t, d.Crash(), small), p)
	if _, err := p.Compact(9); err != api.OK {
		t.Errorf("%s: Compact: %d", what, err)
	}
	puts(t, p, plain("z", 1))
	q := opened(t, d.Crash(), small)
	if !slices.EqualFunc(p.Batches(), q.Batches(), rec.Same) || p.Next() != q.Next() {
		t.Errorf("%s: behind a crash: %v, not %v", what, q.Batches(), p.Batches())
	}
}
