package ledger_test

import (
	"fmt"
	"math"
	"math/rand"
	"slices"
	"testing"

	"towpath/api"
	"towpath/disk"
	"towpath/ledger"
	"towpath/part"
	"towpath/rec"
	"towpath/seglog"
)

// The chapter's examples.
func TestExamples(t *testing.T) {
	_, l := fresh(t, small)
	want(t, "Set a", l.Set("a", "1", 0), api.OK)
	want(t, "Set a again", l.Set("a", "2", 0), api.OK)
	want(t, "Set b", l.Set("b", "x", 0), api.OK)
	want(t, "Drop b", l.Drop("b", 1), api.OK)
	if v, ok := l.Get("a"); v != "2" || !ok {
		t.Errorf("Get a: %q, %v", v, ok)
	}
	if v, ok := l.Get("b"); v != "" || ok {
		t.Errorf("Get b: %q, %v", v, ok)
	}
	if l.Len() != 1 || l.Spare() != 3 {
		t.Errorf("Len %d, Spare %d", l.Len(), l.Spare())
	}
	want(t, "Drop b again", l.Drop("b", 2), api.ErrNone)
	want(t, "All without records", l.All(3), api.ErrArg)
}

// P13.1: the errors of the partition's Open, in its order.
func TestOpenErrors(t *testing.T) {
	good := newDisk(t)
	down := newDisk(t)
	down.Fuse(0)
	with := func(seg, gap, producers int) part.Config {
		return part.Config{Config: seglog.Config{Seg: seg, Gap: gap}, Producers: producers}
	}
	for _, c := range []struct {
		what   string
		d      *disk.Disk
		prefix string
		c      part.Config
		err    api.Errno
	}{
		{"a good one", good, "x", small, api.OK},
		{"the least of all", good, "a", with(64, 1, 1), api.OK},
		{"the most of all", good, "abcdefg9", with(api.MaxDisk, api.MaxDisk, 1024), api.OK},
		{"no producers", good, "x", with(64, 1, 0), api.ErrArg},
		{"less than none", good, "x", with(64, 1, math.MinInt), api.ErrArg},
		{"too many producers", good, "x", with(64, 1, 1025), api.ErrArg},
		{"no disk", nil, "x", small, api.ErrNil},
		{"no disk and no producers", nil, "x", with(64, 1, 0), api.ErrArg},
		{"no disk and no prefix", nil, "", small, api.ErrNil},
		{"no prefix", good, "", small, api.ErrArg},
		{"a long prefix", good, "abcdefghi", small, api.ErrArg},
		{"a prefix of other signs", good, "X", small, api.ErrArg},
		{"a small Seg", good, "x", with(63, 1, 1), api.ErrArg},
		{"a great Seg", good, "x", with(api.MaxDisk+1, 1, 1), api.ErrArg},
		{"no Gap", good, "x", with(64, 0, 1), api.ErrArg},
		{"a great Gap", good, "x", with(64, api.MaxDisk+1, 1), api.ErrArg},
		{"a node that is down", down, "x", small, api.ErrDown},
		{"down, and a prefix that may not be", down, "-", small, api.ErrArg},
	} {
		l, err := ledger.Open(c.d, c.prefix, c.c)
		if err != c.err || (l != nil) != (err == api.OK) {
			t.Errorf("%s: %v, %d, not %d", c.what, l, err, c.err)
		}
		if l != nil && (l.Len() != 0 || l.Spare() != 0 || len(l.Range("", "", 9)) != 0) {
			t.Errorf("%s: not empty: %s", c.what, seen(l))
		}
	}
	if len(good.Names("")) != 0 {
		t.Error("Open makes files", good.Names(""))
	}
}

// P13.1: the power fails, or the disk has an error, while the files of a crash are tidied up.
func TestOpenDown(t *testing.T) {
	d, l := fresh(t, small)
	alls(t, l, set("a", "1", 0), set("b", "1", 0))
	want(t, "a torn write", d.Append("x-00000000000.log", []byte{9, 0}), api.OK)
	want(t, "a snapshot that was not finished", d.Append("x.tmp", []byte{1}), api.OK)
	for fuse := range 2 {
		c := d.Crash(9)
		c.Fuse(fuse)
		if l, err := ledger.Open(c, "x", small); l != nil || err != api.ErrDown {
			t.Errorf("a fuse of %d: %v, %d", fuse, l, err)
		}
	}
	if q := opened(t, d.Crash(9), small); seen(q) != seen(l) || q.Spare() != 0 {
		t.Errorf("behind a torn write: %s, not %s", seen(q), seen(l))
	}
}

// P13.1: what is applied are the records that are committed, whoever wrote them, and no others.
func TestOpenForeign(t *testing.T) {
	d := newDisk(t)
	c := part.Config{Config: small.Config, Producers: 4}
	p, err := part.Open(d, "x", c)
	want(t, "part.Open", err, api.OK)
	one := func(pid int64, kind int, r ...api.Record) api.Batch {
		return api.Batch{Pid: pid, Kind: kind, Time: 5, L: r}
	}
	for _, b := range []api.Batch{
		one(0, api.Plain, set("a", "plain", 5), set("b", "plain", 5), set("c", "plain", 5)),
		one(1, api.Part, set("a", "committed", 5), set("d", "committed", 5)),
		one(2, api.Part, drop("a", 5), set("b", "aborted", 5)),
		one(3, api.Plain, drop("c", 5)),
	} {
		_, _, err := p.Append(b)
		want(t, "Append", err, api.OK)
	}
	p.Mark(1, 0, true, 5)
	p.Mark(2, 0, false, 5)
	p.Append(one(4, api.Part, set("d", "open", 5), drop("b", 5)))
	p.Append(one(0, api.Plain, set("\xff", "behind an open one", 5)))
	l := opened(t, d, c)
	if got := pairs(l.Range("", "", 9)); got != "3:a=committed@5 1:b=plain@5 4:d=committed@5 " {
		t.Error("Range:", got)
	}
	if l.Len() != 3 || l.Spare() != 8 {
		t.Errorf("Len %d, Spare %d", l.Len(), l.Spare())
	}
	p.Mark(4, 0, true, 5)
	if got := pairs(opened(t, d, c).Range("", "", 9)); got != "3:a=committed@5 10:d=open@5 12:\xff=behind an open one@5 " {
		t.Error("behind the marker:", got)
	}
}

// some returns n records, each of a key of its own.
func some(n int) []api.Record {
	var l []api.Record
	for i := range n {
		l = append(l, set(fmt.Sprint("k", i), fmt.Sprint(i), int64(i)))
	}
	return l
}

// P13.2, P13.7: each error, each edge; what is refused changes nothing.
func TestAll(t *testing.T) {
	last := int64(api.MaxTime)
	value := api.Record{Key: "b", Value: "1", Gone: true}
	for _, c := range []struct {
		what string
		time int64
		l    []api.Record
		err  api.Errno
	}{
		{"no records", 3, nil, api.ErrArg},
		{"an empty list", 0, []api.Record{}, api.ErrArg},
		{"one", 3, some(1), api.OK},
		{"64", 3, some(64), api.OK},
		{"65", 3, some(65), api.ErrLong},
		{"65 at a wrong time", -1, some(65), api.ErrArg},
		{"65, one of them wrong", 3, append(some(64), value), api.ErrLong},
		{"an empty record", 0, []api.Record{{}}, api.OK},
		{"a key of 1024 bytes", 0, []api.Record{set(long, "v", 0)}, api.OK},
		{"a key of 1025 bytes", 0, []api.Record{set(tooLong, "v", 0)}, api.ErrLong},
		{"a key of 1025 bytes, gone", 0, []api.Record{drop(tooLong, 0)}, api.ErrLong},
		{"a value of 1024 bytes", 0, []api.Record{set("k", long, 0)}, api.OK},
		{"a value of 1025 bytes", 0, []api.Record{set("k", tooLong, 0)}, api.ErrLong},
		{"any bytes", 0, []api.Record{set("\x00\xff\n", "\xfe\x00", 0)}, api.OK},
		{"time -1", -1, some(1), api.ErrArg},
		{"time 0", 0, some(1), api.OK},
		{"time MaxTime", last, some(1), api.OK},
		{"time MaxTime + 1", last + 1, some(1), api.ErrArg},
		{"the least time", math.MinInt64, some(1), api.ErrArg},
		{"the greatest time", math.MaxInt64, some(1), api.ErrArg},
		{"a record of -1", 5, []api.Record{set("k", "v", -1)}, api.ErrArg},
		{"a record of MaxTime", 5, []api.Record{set("k", "v", last)}, api.OK},
		{"a record of MaxTime + 1", 5, []api.Record{set("k", "v", last+1)}, api.ErrArg},
		{"gone at -1", 5, []api.Record{drop("b", -1)}, api.ErrArg},
		{"gone with a value", 5, []api.Record{value}, api.ErrArg},
		{"gone with a value behind others", 5, append(some(3), value), api.ErrArg},
		{"long ahead of gone with a value", 5, []api.Record{set("k", tooLong, 0), value}, api.ErrLong},
		{"gone with a value ahead of long", 5, []api.Record{value, set("k", tooLong, 0)}, api.ErrArg},
		{"gone", 5, []api.Record{drop("b", 4)}, api.OK},
		{"gone that never was", 5, []api.Record{drop("zz", 4)}, api.OK},
		{"a key several times", 5, []api.Record{set("k", "1", 1), set("k", "2", 9), set("b", "3", 2), set("k", "4", 0)}, api.OK},
		{"a key that is set and gone", 5, []api.Record{set("k", "1", 1), drop("k", 1)}, api.OK},
		{"a key that is gone and set", 5, []api.Record{drop("b", 1), set("b", "", 1)}, api.OK},
		{"a key that is set, gone and set", 5, []api.Record{set("k", "1", 1), drop("k", 1), set("k", "2", 1)}, api.OK},
	} {
		for _, config := range []part.Config{small, wide} {
			w := newTwin(t, config)
			w.all(t, 2, set("b", "0", 2), set("a", "0", 2))
			before := content(w.d)
			got := w.All(c.time, c.l...)
			want(t, c.what, got, c.err)
			if (content(w.d) == before) != (c.err != api.OK) {
				t.Errorf("%s: the disk: %s, then %s", c.what, before, content(w.d))
			}
			w.puts(t, c.what, got, c.time, c.l...)
			w.crash(t)
			w.same(t, c.what+", behind a crash")
			w.all(t, 3, set("a", "behind", 3))
		}
	}
}

// P13.2: Set and Drop are an All of one record, of the time that they are given.
func TestSetDrop(t *testing.T) {
	last := int64(api.MaxTime)
	w := newTwin(t, small)
	for _, time := range []int64{math.MinInt64, -1, 0, 7, last, last + 1, math.MaxInt64} {
		w.drop(t, "k", time)       // has no value: whatever the time is
		w.set(t, "k", "new", time) // may be refused
		w.drop(t, "k", time)
		w.set(t, "k", "1", 5)
		w.set(t, "k", "2", time) // is there
		w.set(t, "k", "", time)
		w.drop(t, "k", time)
		w.drop(t, "k", time) // a second time
		w.drop(t, "k", 5)
		w.drop(t, "k", 5)
		w.drop(t, "other", time)
	}
	for _, key := range []string{"", "k", "\x00\xff", long, tooLong} {
		for _, value := range []string{"", "v", "\x00\xff", long, tooLong} {
			w.set(t, key, value, 3)
			w.drop(t, key, 4)
			w.drop(t, key, 4)
			w.set(t, key, value, 3)
		}
	}
	for key, err := range map[string]api.Errno{long: api.OK, tooLong: api.ErrLong} {
		want(t, "Set of a long key", w.Set(key, long, 0), err)
		want(t, "Set of a long value", w.Set("k", key, 0), err)
	}
	want(t, "Set at -1", w.Set("k", "v", -1), api.ErrArg)
	want(t, "Set behind MaxTime", w.Set("k", "v", last+1), api.ErrArg)
	want(t, "Drop at -1", w.Drop("k", -1), api.ErrArg)
	want(t, "Drop behind MaxTime", w.Drop("k", last+1), api.ErrArg)
	want(t, "Drop of none at -1", w.Drop("none", -1), api.ErrNone)
	want(t, "Drop of none behind MaxTime", w.Drop("none", last+1), api.ErrNone)
	want(t, "Drop of a long key", w.Drop(tooLong, 0), api.ErrNone)
}

// P13.2: at the last offsets the partition's errors are told, and nothing changes.
func TestLastOffsets(t *testing.T) {
	d := newDisk(t)
	base := int64(api.MaxOffset - 2)
	want(t, "a segment near the end", d.Append(fmt.Sprintf("x-%011x.log", base), header(base)), api.OK)
	want(t, "Sync", d.Sync(), api.OK)
	q := opened(t, d, wide)
	want(t, "All of more than there is room for", q.All(0, some(4)...), api.ErrExhausted)
	want(t, "All of two", q.All(0, set("a", "1", 0), set("b", "1", 0)), api.OK)
	before := seen(q)
	want(t, "All of two at the last offset", q.All(0, set("a", "2", 0), set("b", "2", 0)), api.ErrExhausted)
	if seen(q) != before || seen(opened(t, d.Crash(), wide)) != before {
		t.Errorf("what was refused: %s, then %s", before, seen(q))
	}
	want(t, "Drop at the last offset", q.Drop("a", 0), api.OK)
	want(t, "Set behind it", q.Set("a", "3", 0), api.ErrArg)
	want(t, "Drop behind it", q.Drop("b", 0), api.ErrArg)
	want(t, "Drop of none behind it", q.Drop("a", 0), api.ErrNone)
	if got := pairs(q.Range("", "", 9)); got != fmt.Sprintf("%d:b=1@0 ", base+1) || seen(opened(t, d.Crash(), wide)) != seen(q) {
		t.Error("at the end:", got)
	}
}

// P13.3: an empty ledger.
func TestEmpty(t *testing.T) {
	w := newTwin(t, small)
	w.same(t, "empty")
	w.crash(t)
	w.same(t, "empty, opened again")
	w.clean(t, 9)
	w.all(t, 0, set("a", "1", 0), drop("a", 0))
	if w.Len() != 0 || w.Spare() != 2 {
		t.Errorf("emptied: Len %d, Spare %d", w.Len(), w.Spare())
	}
	w.crash(t)
	w.same(t, "emptied, opened again")
}

// P13.3: Range by keys, byte by byte, and not by offsets; with each kind of ends, and of most.
func TestRange(t *testing.T) {
	_, l := fresh(t, small)
	alls(t, l, set("c", "3", 3), set("aa", "1", 1), set("b", "2", 2))
	for _, c := range []struct {
		from, to string
		most     int
		want     string
	}{
		{"", "", 9, "1:aa=1@1 2:b=2@2 0:c=3@3 "},
		{"", "", 3, "1:aa=1@1 2:b=2@2 0:c=3@3 "},
		{"", "", 2, "1:aa=1@1 2:b=2@2 "},
		{"", "", 1, "1:aa=1@1 "},
		{"", "", 0, ""},
		{"", "", -1, ""},
		{"", "", math.MinInt, ""},
		{"", "", math.MaxInt, "1:aa=1@1 2:b=2@2 0:c=3@3 "},
		{"aa", "c", 9, "1:aa=1@1 2:b=2@2 "},
		{"a", "b\x00", 9, "1:aa=1@1 2:b=2@2 "},
		{"aa\x00", "", 9, "2:b=2@2 0:c=3@3 "},
		{"b", "", 1, "2:b=2@2 "},
		{"b", "b", 9, ""},
		{"c", "aa", 9, ""},
		{"d", "", 9, ""},
		{"", "aa", 9, ""},
		{"\xff", "\x00", 9, ""},
	} {
		if got := pairs(l.Range(c.from, c.to, c.most)); got != c.want {
			t.Errorf("Range(%q, %q, %d): %s, not %s", c.from, c.to, c.most, got, c.want)
		}
	}
}

// Rules 4 and 5: neither arguments nor results are shared.
func TestShared(t *testing.T) {
	d, l := fresh(t, small)
	rs := append(make([]api.Record, 0, 8), set("a", "1", 1), set("b", "2", 2))
	want(t, "All", l.All(3, rs...), api.OK)
	if !slices.Equal(rs, []api.Record{set("a", "1", 1), set("b", "2", 2)}) || rs[:3][2] != (api.Record{}) {
		t.Error("All changed its records", rs[:3])
	}
	before := seen(l)
	rs[0], rs[1] = set("x", "y", 5), drop("b", 0)
	got := l.Range("", "", 9)
	got[0].Value = "other"
	_ = append(got[:1], rec.At{})
	if seen(l) != before || seen(opened(t, d.Crash(), small)) != before {
		t.Errorf("writing into arguments and results: %s, not %s", seen(l), before)
	}
}

// Nil ledgers, and one that Open did not make.
func TestNil(t *testing.T) {
	var l *ledger.Ledger
	want(t, "Set", l.Set("a", "1", 0), api.ErrNil)
	want(t, "Set that may not be", l.Set(tooLong, "1", -1), api.ErrNil)
	want(t, "Drop", l.Drop("a", 0), api.ErrNil)
	want(t, "All", l.All(0, set("a", "1", 0)), api.ErrNil)
	want(t, "All without records", l.All(-1), api.ErrNil)
	if n, err := l.Clean(0); n != 0 || err != api.ErrNil {
		t.Errorf("Clean: %d, %d", n, err)
	}
	for what, l := range map[string]*ledger.Ledger{"nil": nil, "not opened": {}} {
		if v, ok := l.Get("a"); v != "" || ok || l.Len() != 0 || l.Spare() != 0 || len(l.Range("", "", 9)) != 0 {
			t.Errorf("%s: not empty: %s, %d", what, seen(l), l.Spare())
		}
	}
	l = &ledger.Ledger{}
	for _, err := range []api.Errno{l.Set("a", "1", 0), l.Drop("a", 0), l.All(0)} {
		if err == api.OK {
			t.Error("a ledger that was not opened takes a change")
		}
	}
	l.Clean(0)
}

// P13.2, P13.3, P13.4, P13.6: by chance, beside a partition and a model.
func TestMany(t *testing.T) {
	configs := []part.Config{small, wide, {Config: seglog.Config{Seg: 150, Gap: 1}, Producers: 3}}
	for seed := range int64(60) {
		rnd := rand.New(rand.NewSource(seed))
		w := newTwin(t, configs[seed%3])
		for range 40 {
			step(t, rnd, w)
			if t.Failed() {
				t.Fatal("seed", seed)
			}
		}
	}
}

// step is any call.
func step(t *testing.T, rnd *rand.Rand, w *twin) {
	t.Helper()
	key := keys[rnd.Intn(len(keys))]
	time := int64(rnd.Intn(20))
	if rnd.Intn(30) == 0 {
		time = []int64{-1, api.MaxTime, api.MaxTime + 1}[rnd.Intn(3)]
	}
	switch rnd.Intn(9) {
	case 0, 1:
		w.set(t, key, fmt.Sprint(rnd.Intn(50)), time)
	case 2, 3:
		w.drop(t, key, time)
	case 4, 5, 6:
		w.all(t, time, someRecords(rnd)...)
	case 7:
		w.clean(t, int64(rnd.Intn(25)-2))
	case 8:
		w.crash(t, rnd.Intn(40))
		w.same(t, "opened again")
	}
}

func someRecords(rnd *rand.Rand) []api.Record {
	var l []api.Record
	for range rnd.Intn(5) {
		r := set(keys[rnd.Intn(len(keys))], fmt.Sprint(rnd.Intn(50)), int64(rnd.Intn(20)))
		if rnd.Intn(3) == 0 {
			r = drop(r.Key, r.Time)
		}
		if rnd.Intn(40) == 0 {
			r.Gone = true // maybe with a value
		}
		l = append(l, r)
	}
	return l
}
