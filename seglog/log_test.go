package seglog_test

import (
	"fmt"
	"math"
	"math/rand"
	"slices"
	"strings"
	"testing"

	"towpath/api"
	"towpath/disk"
	"towpath/rec"
	"towpath/seglog"
)

// Both examples of the chapter, and those beside its promises.
func TestExamples(t *testing.T) {
	d := newDisk(t)
	l := opened(t, d, small)
	if offset, err := l.Append(plain("a", "x")); offset != 0 || err != api.OK {
		t.Error("Append", offset, err)
	}
	raw, _ := d.Read("p-00000000000.log")
	if len(raw) != 32 || fmt.Sprintf("%x", raw[:7]) != "03000000530000" || string(raw) != string(head(0, 0))+string(body(plain("a", "x"))) {
		t.Errorf("the file: %x", raw)
	}
	for i := int64(1); i < 3; i++ {
		if offset, err := l.Append(plain("a", "x")); offset != i || err != api.OK {
			t.Error("Append", offset, err)
		}
	}
	numbers(t, "Segments", l.Segments(), 0, 2)
	if d.Size("p-00000000000.log") != 53 || d.Size("p-00000000002.log") != 32 {
		t.Error("sizes", content(d, ""))
	}
	if bs, err := l.Read(1, 9); err != api.OK || len(bs) != 2 || bs[0].Base != 1 || bs[1].Base != 2 {
		t.Error("Read(1, 9)", bs, err)
	}
	if bs, err := l.Read(4, 1); err != api.ErrRange || len(bs) != 0 {
		t.Error("Read(4, 1)", bs, err)
	}
	if n, err := l.Trim(2); n != 1 || err != api.OK || l.First() != 2 {
		t.Error("Trim(2)", n, err, l.First())
	}
}

func TestPrefix(t *testing.T) {
	for _, s := range []string{"a", "z", "0", "9", "p1", "abcdefgh", "01234567", "a0b1c2d3"} {
		if !seglog.Prefix(s) {
			t.Errorf("Prefix(%q) is false", s)
		}
	}
	wrong := []string{"", "abcdefghi", "012345678", strings.Repeat("a", 1000), "\u00e9", "a\u00e9", "\xff"}
	for c := range 256 {
		if s := string([]byte{byte(c)}); !strings.Contains("abcdefghijklmnopqrstuvwxyz0123456789", s) {
			wrong = append(wrong, s, "a"+s, s+"a")
		}
	}
	for _, s := range wrong {
		if seglog.Prefix(s) {
			t.Errorf("Prefix(%q) is true", s)
		}
		if l, err := seglog.Open(newDisk(t), s, small); l != nil || err != api.ErrArg {
			t.Errorf("Open with the prefix %q: %v, %d", s, l, err)
		}
	}
}

// P6.1: arguments at the limits and beyond, and the order of errors.
func TestOpenArguments(t *testing.T) {
	for _, c := range []struct {
		seg, gap int
		want     api.Errno
	}{
		{64, 1, api.OK}, {65, 2, api.OK}, {api.MaxDisk, api.MaxDisk, api.OK},
		{63, 1, api.ErrArg}, {0, 1, api.ErrArg}, {-64, 1, api.ErrArg}, {math.MinInt, 1, api.ErrArg},
		{api.MaxDisk + 1, 1, api.ErrArg}, {math.MaxInt, 1, api.ErrArg},
		{64, 0, api.ErrArg}, {64, -1, api.ErrArg}, {64, math.MinInt, api.ErrArg},
		{64, api.MaxDisk + 1, api.ErrArg}, {64, math.MaxInt, api.ErrArg}, {0, 0, api.ErrArg},
	} {
		l, err := seglog.Open(newDisk(t), "abcdefgh", seglog.Config{Seg: c.seg, Gap: c.gap})
		if err != c.want || (l != nil) != (c.want == api.OK) {
			t.Errorf("Open with %d, %d: %v, %d", c.seg, c.gap, l, err)
		}
	}
	down := newDisk(t)
	down.Fuse(0)
	for _, c := range []struct {
		what   string
		d      *disk.Disk
		prefix string
		c      seglog.Config
		want   api.Errno
	}{
		{"nil", nil, "p", small, api.ErrNil},
		{"nil and a wrong prefix", nil, "", small, api.ErrNil},
		{"nil and a wrong config", nil, "p", seglog.Config{}, api.ErrNil},
		{"down", down, "p", small, api.ErrDown},
		{"down and a wrong prefix", down, "-", small, api.ErrArg},
		{"down and a wrong config", down, "p", seglog.Config{}, api.ErrArg},
	} {
		if l, err := seglog.Open(c.d, c.prefix, c.c); l != nil || err != c.want {
			t.Errorf("%s: %v, %d", c.what, l, err)
		}
	}
}

// A log without segments.
func TestEmpty(t *testing.T) {
	d := newDisk(t)
	l := opened(t, d, small)
	m := &model{Config: small}
	agrees(t, "new", d, l, m)
	want(t, "Sync", l.Sync(), api.OK)
	want(t, "Roll", l.Roll(), api.ErrNone)
	if n, err := l.Trim(math.MaxInt64); n != 0 || err != api.OK {
		t.Error("Trim", n, err)
	}
	for _, upto := range []int64{-1, 0, 1} {
		want(t, "Replace", l.Replace(upto), api.ErrArg)
	}
	if bs, err := l.Read(0, 1); err != api.OK || len(bs) != 0 {
		t.Error("Read(0, 1)", bs, err)
	}
	agrees(t, "as before", d, l, m)
	d.Append("x", []byte("123"))
	d.Fuse(0)
	want(t, "Sync without power", l.Sync(), api.OK)
	want(t, "Roll without power", l.Roll(), api.ErrNone)
	if n, err := l.Trim(5); n != 0 || err != api.OK {
		t.Error("Trim without power", n, err)
	}
	if offset, err := l.Append(plain("a", "x")); offset != 0 || err != api.ErrDown {
		t.Error("Append without power", offset, err)
	}
	agrees(t, "without power", d, l, m)
}

// P6.3: Sync of a log without segments makes no other file durable; that of a log makes its own files durable, and no others.
func TestSyncFiles(t *testing.T) {
	d := newDisk(t)
	l := opened(t, d, small)
	d.Append("x", []byte("123"))
	want(t, "Sync", l.Sync(), api.OK)
	l.Append(plain("a", "x"))
	want(t, "Sync", l.Sync(), api.OK)
	if d.Kept("x") != 0 || d.Kept("p-00000000000.log") != 32 {
		t.Error("durable", d.Kept("x"), d.Kept("p-00000000000.log"))
	}
	c := d.Crash()
	forged(c, "p-00000000001.log", head(1, 0), body(at(1, 1)))
	forged(c, "p-00000000002.log", head(2, 0), body(at(2, 1)))
	l = opened(t, c, small)
	want(t, "Sync", l.Sync(), api.OK)
	if got := shown(opened(t, c.Crash(), small)); got != shown(l) {
		t.Errorf("three segments: %s, not %s", got, shown(l))
	}
}

// P6.2: no batches, batches that are not valid at the offset that they get, and P6.10: they change nothing.
func TestAppendErrors(t *testing.T) {
	good := plain("a", "x")
	long := strings.Repeat("x", api.MaxText+1)
	for _, c := range []struct {
		what string
		bs   []api.Batch
		want api.Errno
	}{
		{"none", nil, api.ErrNone},
		{"no records", []api.Batch{{}}, api.ErrArg},
		{"a marker without a producer", []api.Batch{{Kind: api.Commit}}, api.ErrArg},
		{"a wrong pid", []api.Batch{{Pid: -1, L: good.L}}, api.ErrArg},
		{"a long key", []api.Batch{plain(long, "x")}, api.ErrLong},
		{"too many records", []api.Batch{at(0, 65)}, api.ErrLong},
		{"a sequence number at its end", []api.Batch{{Pid: 1, Seq: api.MaxSeq, L: at(0, 2).L}}, api.ErrExhausted},
		{"the second one", []api.Batch{good, {}}, api.ErrArg},
		{"the first of two errors", []api.Batch{good, plain(long, "x"), {}}, api.ErrLong},
		{"the first of two errors, the other way", []api.Batch{good, {}, plain(long, "x")}, api.ErrArg},
	} {
		d, l := filled(t, 3)
		before, files := shown(l), content(d, "")
		for _, power := range []bool{true, false} {
			if !power {
				d.Fuse(0)
			}
			if offset, err := l.Append(c.bs...); offset != 0 || err != c.want {
				t.Errorf("%s: %d, %d, not %d", c.what, offset, err, c.want)
			}
			if shown(l) != before || content(d, "") != files {
				t.Errorf("%s: changed to %s", c.what, shown(l))
			}
		}
	}
}

// P6.2: the Base that a batch comes with counts for nothing, and stays as it is.
func TestAppendBase(t *testing.T) {
	d := newDisk(t)
	l := opened(t, d, seglog.Config{Seg: 1 << 12, Gap: 1})
	bs := []api.Batch{at(-9, 2), {Base: math.MaxInt64, Pid: 3, Epoch: 1, Kind: api.Abort}, at(math.MinInt64, 3), at(api.MaxOffset, 1)}
	if offset, err := l.Append(bs...); offset != 0 || err != api.OK {
		t.Fatal("Append", offset, err)
	}
	if offset, err := l.Append(bs[1], bs[0]); offset != 7 || err != api.OK {
		t.Fatal("Append", offset, err)
	}
	var bases []int64
	for _, b := range l.All() {
		bases = append(bases, b.Base)
	}
	numbers(t, "bases", bases, 0, 2, 3, 6, 7, 8)
	numbers(t, "Segments", l.Segments(), 0)
	if l.Next() != 10 || bs[0].Base != -9 || bs[1].Base != math.MaxInt64 || bs[2].Base != math.MinInt64 || bs[3].Base != api.MaxOffset {
		t.Error("Next, and the arguments", l.Next(), bs)
	}
}

// P6.2: batches that just fit a segment, and one byte more; a segment without batches takes any; several batches stay together.
func TestFit(t *testing.T) {
	// A header has 11 bytes, the frame of plain("a", "x") 21, with a longer value more.
	for _, c := range []struct {
		seg  int
		want []int64
	}{
		{64, []int64{0, 2, 4}}, {73, []int64{0, 2, 4}}, {74, []int64{0, 3}}, {75, []int64{0, 3}}, {94, []int64{0, 3}}, {95, []int64{0, 4}}, {116, []int64{0}},
	} {
		d := newDisk(t)
		l := opened(t, d, seglog.Config{Seg: c.seg, Gap: 1})
		for range 5 {
			l.Append(plain("a", "x"))
		}
		numbers(t, fmt.Sprint("Seg ", c.seg), l.Segments(), c.want...)
	}
	d := newDisk(t)
	l := opened(t, d, small)
	great := plain("a", strings.Repeat("y", 100))
	l.Append(great, great)
	numbers(t, "the first batches of a log", l.Segments(), 0)
	l.Append(plain("a", "x"))
	numbers(t, "behind a full segment", l.Segments(), 0, 2)
	want(t, "Roll", l.Roll(), api.OK)
	l.Append(great)
	numbers(t, "into a segment without batches", l.Segments(), 0, 2, 3)
	l.Append(plain("a", "x"))
	numbers(t, "Segments", l.Segments(), 0, 2, 3, 4)
	l.Append(plain("a", "x"), plain("a", "x"))
	numbers(t, "two of which one would fit", l.Segments(), 0, 2, 3, 4, 5)
	if d.Kept("p-00000000004.log") != 32 || d.Kept("p-00000000005.log") != 0 {
		t.Error("the previous segment is synced, not the new one", d.Kept("p-00000000004.log"), d.Kept("p-00000000005.log"))
	}
}

// P6.3: Roll of a log with batches, again, and behind another Append.
func TestRoll(t *testing.T) {
	d, l := filled(t, 1)
	want(t, "Roll", l.Roll(), api.OK)
	numbers(t, "Segments", l.Segments(), 0, 1)
	if d.Kept("p-00000000000.log") != 32 || d.Size("p-00000000001.log") != 11 || l.Next() != 1 || len(l.All()) != 1 {
		t.Error("behind Roll", content(d, ""), shown(l))
	}
	want(t, "Roll again", l.Roll(), api.ErrNone)
	numbers(t, "Segments", l.Segments(), 0, 1)
	l.Append(plain("a", "x"))
	want(t, "Roll", l.Roll(), api.OK)
	numbers(t, "Segments", l.Segments(), 0, 1, 2)
	agrees(t, "opened again", d, opened(t, d, small), &model{Config: small, segs: []mseg{{l: []api.Batch{{L: plain("a", "x").L}}}, {base: 1, l: []api.Batch{{Base: 1, L: plain("a", "x").L}}}, {base: 2}}})
}

// P6.4: Trim at each base and beside it.
func TestTrim(t *testing.T) {
	for _, c := range []struct {
		offset  int64
		removed int
	}{
		{math.MinInt64, 0}, {-1, 0}, {0, 0}, {1, 0}, {2, 1}, {3, 1}, {4, 2}, {5, 2}, {6, 3}, {7, 3}, {8, 3}, {api.MaxOffset, 3}, {math.MaxInt64, 3},
	} {
		d, l := filled(t, 7)
		m := &model{Config: small}
		for range 7 {
			m.append(plain("a", "x"))
		}
		what := fmt.Sprintf("Trim(%d)", c.offset)
		if n, err := l.Trim(c.offset); n != c.removed || err != api.OK || m.trim(c.offset) != c.removed {
			t.Errorf("%s: %d, %d, not %d", what, n, err, c.removed)
		}
		agrees(t, what, d, l, m)
		if n, err := l.Trim(c.offset); n != 0 || err != api.OK {
			t.Errorf("%s again: %d, %d", what, n, err)
		}
		agrees(t, what+", opened again", d, opened(t, d, small), m)
		if offset, err := l.Append(plain("a", "x")); offset != 7 || err != api.OK {
			t.Errorf("%s, then Append: %d, %d", what, offset, err)
		}
	}
}

// P6.4: with an error of the disk, Trim tells how many segments went ahead of it, and they are gone.
func TestTrimError(t *testing.T) {
	for fuse := range 3 {
		d, l := filled(t, 7)
		d.Fuse(fuse)
		n, err := l.Trim(6)
		if n != fuse || err != api.ErrDown {
			t.Errorf("Fuse(%d): %d, %d", fuse, n, err)
		}
		numbers(t, fmt.Sprint("Fuse ", fuse), l.Segments(), []int64{0, 2, 4, 6}[n:]...)
		if x := opened(t, d.Crash(), small); x.First() != l.First() {
			t.Errorf("Fuse(%d): First is %d, then %d", fuse, l.First(), x.First())
		}
	}
}

// P6.4, P6.11: Replace at each base and beside it.
func TestReplaceAt(t *testing.T) {
	for _, c := range []struct {
		upto int64
		want api.Errno
	}{
		{math.MinInt64, api.ErrArg}, {-1, api.ErrArg}, {0, api.ErrArg}, {1, api.ErrArg}, {3, api.ErrArg}, {5, api.ErrArg}, {7, api.ErrArg}, {8, api.ErrArg}, {api.MaxOffset, api.ErrArg}, {math.MaxInt64, api.ErrArg},
		{2, api.OK}, {4, api.OK}, {6, api.OK},
	} {
		d, l := filled(t, 7)
		m := &model{Config: small}
		for range 7 {
			m.append(plain("a", "x"))
		}
		what := fmt.Sprintf("Replace(%d)", c.upto)
		old := l.All()
		want(t, what, l.Replace(c.upto, at(1, 1)), c.want)
		want(t, what, m.replace(c.upto, at(1, 1)), c.want)
		agrees(t, what, d, l, m)
		agrees(t, what+", opened again", d, opened(t, d, small), m)
		agrees(t, what+", behind a crash", d, opened(t, d.Crash(math.MaxInt), small), m)
		if c.want == api.OK {
			rest, err := l.Read(c.upto, 100)
			if err != api.OK || !sameBatches(rest, old[c.upto:]) {
				t.Errorf("%s: from there on: %v, %d", what, rest, err)
			}
			if got, _ := l.Read(0, 1); !sameBatches(got, []api.Batch{at(1, 1)}) {
				t.Errorf("%s: the new batch: %v", what, got)
			}
		}
	}
}

// P6.4: batches that Replace takes and does not take, in a log whose first offset is 2.
func TestReplaceBatches(t *testing.T) {
	for _, c := range []struct {
		what string
		bs   []api.Batch
		want api.Errno
	}{
		{"none", nil, api.OK},
		{"one at the first offset", []api.Batch{at(2, 1)}, api.OK},
		{"one at the last offset", []api.Batch{at(5, 1)}, api.OK},
		{"all offsets", []api.Batch{at(2, 4)}, api.OK},
		{"each offset", []api.Batch{at(2, 1), at(3, 1), at(4, 1), at(5, 1)}, api.OK},
		{"a hole", []api.Batch{at(2, 1), at(4, 2)}, api.OK},
		{"a marker", []api.Batch{at(3, 1), {Base: 4, Pid: 3, Kind: api.Commit}}, api.OK},
		{"a marker at the end", []api.Batch{{Base: 5, Pid: 3, Kind: api.Commit}}, api.OK},
		{"below the first offset", []api.Batch{at(1, 1)}, api.ErrArg},
		{"from below the first offset on", []api.Batch{at(1, 2)}, api.ErrArg},
		{"at 0", []api.Batch{{L: at(0, 1).L}}, api.ErrArg},
		{"up to behind upto", []api.Batch{at(5, 2)}, api.ErrArg},
		{"at upto", []api.Batch{at(6, 1)}, api.ErrArg},
		{"a marker at upto", []api.Batch{{Base: 6, Pid: 3, Kind: api.Commit}}, api.ErrArg},
		{"all and one more", []api.Batch{at(2, 5)}, api.ErrArg},
		{"one offset twice", []api.Batch{at(3, 1), at(3, 1)}, api.ErrArg},
		{"an overlap", []api.Batch{at(2, 2), at(3, 1)}, api.ErrArg},
		{"falling", []api.Batch{at(4, 1), at(3, 1)}, api.ErrArg},
		{"no records", []api.Batch{at(3, 0)}, api.ErrArg},
		{"too long", []api.Batch{{Base: 3, L: plain(strings.Repeat("k", 1025), "").L}}, api.ErrArg},
		{"the second one not valid", []api.Batch{at(3, 1), at(4, 0)}, api.ErrArg},
		{"a Base below 0", []api.Batch{at(-1, 1)}, api.ErrArg},
		{"a Base beyond all", []api.Batch{at(math.MaxInt64, 1)}, api.ErrArg},
	} {
		d, l := filled(t, 7)
		m := &model{Config: small}
		for range 7 {
			m.append(plain("a", "x"))
		}
		l.Trim(2)
		m.trim(2)
		want(t, c.what, l.Replace(6, c.bs...), c.want)
		want(t, c.what+" in the model", m.replace(6, c.bs...), c.want)
		agrees(t, c.what, d, l, m)
		agrees(t, c.what+", opened again", d, opened(t, d.Crash(math.MaxInt), small), m)
	}
}

// A segment that replaced others is one as any other: it may be the last one, be appended to, replaced again, and trimmed.
func TestReplaced(t *testing.T) {
	for _, c := range []struct {
		what string
		bs   []api.Batch
	}{
		{"without batches", nil},
		{"with a batch", []api.Batch{at(1, 1)}},
		{"with a great one", []api.Batch{{Base: 1, L: plain("a", strings.Repeat("y", 99)).L}}},
	} {
		d, l := filled(t, 5)
		l.Roll()
		m := &model{Config: small}
		for range 5 {
			m.append(plain("a", "x"))
		}
		m.roll()
		want(t, "Replace", l.Replace(5, c.bs...), m.replace(5, c.bs...))
		agrees(t, c.what, d, l, m)
		d = d.Crash() // the last segment was never synced
		m.segs = m.segs[:1]
		l = opened(t, d, small)
		agrees(t, c.what+", the last one", d, l, m)
		for i := range int64(5) {
			offset, err := l.Append(plain("a", "x"))
			woffset, werr := m.append(plain("a", "x"))
			if offset != i+5 || offset != woffset || err != werr {
				t.Errorf("%s: Append: %d, %d, not %d, %d", c.what, offset, err, woffset, werr)
			}
			agrees(t, c.what+", appended to", d, l, m)
		}
		upto := l.Segments()[1]
		want(t, "Replace again", l.Replace(upto, at(2, 3)), m.replace(upto, at(2, 3)))
		agrees(t, c.what+", replaced again", d, l, m)
		l.Trim(upto)
		m.trim(upto)
		agrees(t, c.what+", trimmed", d, l, m)
		agrees(t, c.what+", opened again", d, opened(t, d, small), m)
	}
}

// P6.5: Read within batches of several records, across segments and holes; at the first and the next offset and beside them.
func TestRead(t *testing.T) {
	d := newDisk(t)
	forged(d, "p-00000000003.log", head(3, 0), body(at(5, 3)), body(at(8, 1)))
	forged(d, "p-00000000014.log", head(20, 0), body(at(20, 4)))
	forged(d, "p-0000000001e.log", head(30, 0))
	l := opened(t, d, small)
	for _, c := range []struct {
		offset int64
		most   int
		want   string
	}{
		{3, 9, "5:3 8:1 20:4"}, {4, 9, "5:3 8:1 20:4"}, {5, 9, "5:3 8:1 20:4"}, {6, 9, "6:2 8:1 20:4"}, {7, 9, "7:1 8:1 20:4"}, {8, 9, "8:1 20:4"},
		{9, 9, "20:4"}, {19, 9, "20:4"}, {20, 9, "20:4"}, {21, 9, "21:3"}, {23, 9, "23:1"}, {24, 9, ""}, {29, 9, ""}, {30, 9, ""}, {30, 1, ""},
		{3, 1, "5:3"}, {7, 1, "7:1"}, {7, 2, "7:1 8:1"}, {9, 1, "20:4"}, {3, 3, "5:3 8:1 20:4"}, {3, math.MaxInt, "5:3 8:1 20:4"},
		{3, 0, "2"}, {3, -1, "2"}, {3, math.MinInt, "2"}, {2, 0, "2"}, {31, 0, "2"},
		{2, 1, "8"}, {0, 1, "8"}, {-1, 1, "8"}, {math.MinInt64, 1, "8"}, {31, 1, "8"}, {math.MaxInt64, 1, "8"},
	} {
		bs, err := l.Read(c.offset, c.most)
		var got []string
		for _, b := range bs {
			got = append(got, fmt.Sprintf("%d:%d", b.Base, len(b.L)))
		}
		if err != api.OK {
			got = append(got, fmt.Sprint(int(err)))
		}
		if s := strings.Join(got, " "); s != c.want {
			t.Errorf("Read(%d, %d): %s, not %s", c.offset, c.most, s, c.want)
		}
	}
}

// P6.5: the first one is as rec.From gives it, with its sequence number; a marker is whole or is not there.
func TestReadFrom(t *testing.T) {
	d := newDisk(t)
	l := opened(t, d, small)
	b := api.Batch{Pid: 4, Epoch: 2, Seq: 10, Kind: api.Part, Time: 3, L: []api.Record{{Key: "a", Time: 1}, {Key: "b", Gone: true, Time: 2}, {Key: "c", Value: "v", Time: 3}}}
	mark := rec.Mark(4, 2, true, 9)
	l.Append(b, mark)
	got, err := l.Read(1, 2)
	rest, _ := rec.From(b, 1)
	mark.Base = 3
	if err != api.OK || !sameBatches(got, []api.Batch{rest, mark}) || got[0].Seq != 11 {
		t.Error("Read(1, 2)", got, err)
	}
	if got, err := l.Read(3, 2); err != api.OK || !sameBatches(got, []api.Batch{mark}) {
		t.Error("Read(3, 2)", got, err)
	}
	if got, err := l.Read(4, 2); err != api.OK || len(got) != 0 {
		t.Error("Read(4, 2)", got, err)
	}
}

// P6.5: After looks into the first segment that reaches a time, and there as its index does.
func TestAfter(t *testing.T) {
	for _, c := range []struct {
		gap   int
		wants map[int64]string
	}{
		{1, map[int64]string{math.MinInt64: "0 false", -1: "0 false", 0: "0 true", 5: "0 true", 6: "2 true", 9: "2 true", 10: "4 true", 12: "4 true", 13: "5 true", 40: "5 true", 41: "0 false", math.MaxInt64: "0 false"}},
		{1000, map[int64]string{-1: "0 false", 0: "0 true", 5: "0 true", 6: "0 true", 9: "0 true", 10: "0 true", 12: "0 true", 13: "5 true", 40: "5 true", 41: "0 false"}},
	} {
		d := newDisk(t)
		l := opened(t, d, seglog.Config{Seg: 1 << 12, Gap: c.gap})
		l.Append(timed(5, 2))                                                 // 0, 1
		l.Append(timed(1, 9))                                                 // 2, 3
		l.Append(api.Batch{Pid: 3, Kind: api.Abort, Time: 12})                // 4
		l.Roll()                                                              // 5
		l.Append(api.Batch{Time: 99, L: []api.Record{{Time: 3}, {Time: 40}}}) // 5, 6: the batch's own time does not count
		l.Append(timed(0))
		l.Roll()
		for _, log := range []*seglog.Log{l, opened(t, d, seglog.Config{Seg: 1 << 12, Gap: c.gap})} {
			for time, want := range c.wants {
				if got := fmt.Sprint(log.After(time)); got != want {
					t.Errorf("gap %d: After(%d): %s, not %s", c.gap, time, got, want)
				}
			}
		}
	}
}

// P6.2 to P6.6, P6.9, P6.11: calls at random against a model, with the files as they must be, and the log opened again now and then.
func TestModel(t *testing.T) {
	rnd := rand.New(rand.NewSource(6))
	for range 40 {
		c := seglog.Config{Seg: pick(rnd, 64, 100, 300), Gap: pick(rnd, 1, 50, 1000)}
		d := newDisk(t)
		l, m := opened(t, d, c), &model{Config: c}
		for i := range 25 {
			what := step(t, rnd, l, m)
			agrees(t, what, d, l, m)
			if i%8 == 7 {
				l = opened(t, d.Crash(math.MaxInt), c)
				agrees(t, what+", opened again", d, l, m)
				l = opened(t, d, c)
			}
			if t.Failed() {
				return
			}
		}
	}
}

// step makes one call on both, on a disk that does not fail.
func step(t *testing.T, rnd *rand.Rand, l *seglog.Log, m *model) string {
	t.Helper()
	switch rnd.Intn(10) {
	case 0:
		want(t, "Roll", l.Roll(), m.roll())
		return "Roll"
	case 1:
		want(t, "Sync", l.Sync(), api.OK)
		return "Sync"
	case 2:
		offset := m.first() + int64(rnd.Intn(6)) - 1
		if n, err := l.Trim(offset); n != m.trim(offset) || err != api.OK {
			t.Errorf("Trim(%d): %d, %d", offset, n, err)
		}
		return fmt.Sprintf("Trim(%d)", offset)
	case 3, 4:
		upto, bs := somePlan(rnd, m)
		want(t, fmt.Sprintf("Replace(%d, %v) of %v", upto, bs, m.bases()), l.Replace(upto, bs...), m.replace(upto, bs...))
		return fmt.Sprintf("Replace(%d, %v)", upto, bs)
	}
	bs := someBatches(rnd)
	offset, err := l.Append(bs...)
	if woffset, werr := m.append(bs...); offset != woffset || err != werr {
		t.Errorf("Append(%v): %d, %d, not %d, %d", bs, offset, err, woffset, werr)
	}
	return fmt.Sprintf("Append(%v)", bs)
}

// somePlan is mostly something that Replace takes: a base, and some of the batches below it.
func somePlan(rnd *rand.Rand, m *model) (int64, []api.Batch) {
	bases := append([]int64{m.next()}, m.bases()...)
	upto := pick(rnd, bases...) + pick[int64](rnd, 0, 0, 0, 0, 1, -1)
	var bs []api.Batch
	for _, b := range m.all() {
		if rec.Next(b) <= upto && rnd.Intn(2) == 0 {
			bs = append(bs, rec.Split(b, 1+rnd.Intn(2))...)
		}
	}
	if len(bs) > 1 && rnd.Intn(6) == 0 {
		i := rnd.Intn(len(bs) - 1)
		bs[i], bs[i+1] = bs[i+1], bs[i]
	}
	return upto, bs
}

// P6.6: logs of one disk, of which no prefix is another's, and files that only look like a log's.
func TestTwoLogs(t *testing.T) {
	d := newDisk(t)
	strangers := []string{"p", "p-", "p.log", "p-0.log", "p-0000000000.log", "p-000000000000.log", "p-00000000000", "p-00000000000.lo", "p-00000000000.logs", "p-0000000000g.log", "p--0000000001.log", "p-0000000000..log", "p-00000000000.ne", "p-0000000000z.new", "p-000000000000.new", "p.snap", "p.tmp", "q", "pp-00000000001.new"}
	for _, name := range strangers {
		forged(d, name, []byte("stranger"))
	}
	others := content(d, "")
	logs := map[string]*seglog.Log{}
	models := map[string]*model{}
	for _, prefix := range []string{"p", "pq", "q", "0"} {
		l, err := seglog.Open(d, prefix, small)
		if err != api.OK {
			t.Fatal(prefix, err)
		}
		logs[prefix], models[prefix] = l, &model{Config: small}
	}
	rnd := rand.New(rand.NewSource(3))
	for range 120 {
		prefix := pick(rnd, "p", "pq", "q", "0")
		what := step(t, rnd, logs[prefix], models[prefix])
		for p, l := range logs {
			if !slices.Equal(l.Segments(), models[p].bases()) || !sameBatches(l.All(), models[p].all()) {
				t.Fatalf("%s of %s changed %s: %s", what, prefix, p, shown(l))
			}
		}
	}
	left := d.Crash(math.MaxInt)
	for prefix, m := range models {
		l, err := seglog.Open(left, prefix, small)
		if err != api.OK || !sameBatches(l.All(), m.all()) {
			t.Errorf("%s opened again: %d, %s", prefix, err, shown(l))
		}
		for _, name := range m.bases() {
			left.Remove(fileName(prefix, name))
		}
	}
	if got := content(left, ""); got != others {
		t.Errorf("other files: %s, not %s", got, others)
	}
}

// Rules 4 and 5: arguments are neither changed nor kept, and results are copies.
func TestCopies(t *testing.T) {
	d := newDisk(t)
	l := opened(t, d, small)
	bs := []api.Batch{at(7, 3), at(8, 2)}
	l.Append(bs...)
	if bs[0].Base != 7 || bs[1].Base != 8 {
		t.Error("arguments of Append changed", bs)
	}
	bs[0].L[0].Key = "other"
	l.Roll()
	l.Append(at(0, 2))
	before := shown(l)
	spoil := func(bs []api.Batch) {
		for i := range bs {
			for j := range bs[i].L {
				bs[i].L[j].Key = "spoilt"
			}
			_ = append(bs[i].L[:1], api.Record{Key: "spoilt"}, api.Record{Key: "spoilt"})
			bs[i].Base = 99
		}
	}
	for offset := range int64(7) {
		got, _ := l.Read(offset, 9)
		spoil(got)
	}
	spoil(l.All())
	bases := l.Segments()
	bases[0] = 77
	_ = append(bases[:1], 78, 79)
	if shown(l) != before || strings.Contains(before, "other") {
		t.Errorf("%s, not %s", shown(l), before)
	}
	for offset := range int64(5) { // a result that is a part of a batch does not reach into the rest of it
		got, _ := l.Read(offset, 1)
		again, _ := l.Read(offset, 1)
		spoil(got)
		if fmt.Sprint(again) == fmt.Sprint(got) {
			t.Error("two results share memory", got)
		}
	}
	part := []api.Batch{at(1, 2)}
	want(t, "Replace", l.Replace(5, part...), api.OK)
	spoil(part)
	if got := fmt.Sprint(l.All()[0]); got != fmt.Sprint(at(1, 2)) {
		t.Error("arguments of Replace are kept", got)
	}
}

// A nil log, and the zero one, which is no more than safe.
func TestNil(t *testing.T) {
	var l *seglog.Log
	for _, bs := range [][]api.Batch{nil, {plain("a", "x")}, {{}}} {
		if offset, err := l.Append(bs...); offset != 0 || err != api.ErrNil {
			t.Error("Append", offset, err)
		}
		want(t, "Replace", l.Replace(0, bs...), api.ErrNil)
	}
	want(t, "Sync", l.Sync(), api.ErrNil)
	want(t, "Roll", l.Roll(), api.ErrNil)
	if n, err := l.Trim(5); n != 0 || err != api.ErrNil {
		t.Error("Trim", n, err)
	}
	for _, most := range []int{-1, 0, 1} {
		if bs, err := l.Read(-1, most); len(bs) != 0 || err != api.ErrNil {
			t.Error("Read", bs, err)
		}
	}
	if offset, ok := l.After(0); offset != 0 || ok {
		t.Error("After", offset, ok)
	}
	if len(l.All()) != 0 || len(l.Segments()) != 0 || l.First() != 0 || l.Next() != 0 {
		t.Error("numbers", l.All(), l.Segments(), l.First(), l.Next())
	}
	zero := &seglog.Log{}
	zero.Append(plain("a", "x"))
	zero.Sync()
	zero.Roll()
	zero.Trim(5)
	zero.Replace(5, at(1, 1))
	zero.Read(0, 1)
	zero.After(0)
	if len(zero.All()) != 0 || zero.Next() != 0 {
		t.Error("the zero log", shown(zero))
	}
}

// Offsets at their end: the last one is given out, none behind it.
func TestLastOffset(t *testing.T) {
	d := newDisk(t)
	forged(d, "p-0fffffffffe.log", head(api.MaxOffset-2, 0))
	l := opened(t, d, small)
	if offset, err := l.Append(at(0, 4)); offset != 0 || err != api.ErrExhausted {
		t.Error("Append of one too many", offset, err)
	}
	if offset, err := l.Append(at(0, 3)); offset != api.MaxOffset-2 || err != api.OK {
		t.Error("Append", offset, err)
	}
	if bs, err := l.Read(api.MaxOffset, 1); err != api.OK || len(bs) != 1 || l.Next() != api.MaxOffset+1 {
		t.Error("Read", bs, err, l.Next())
	}
	if offset, err := l.Append(at(0, 1)); offset != 0 || err != api.ErrArg {
		t.Error("Append behind the end", offset, err)
	}
	if got := shown(opened(t, d, small)); got != shown(l) {
		t.Errorf("%s, not %s", got, shown(l))
	}
}
