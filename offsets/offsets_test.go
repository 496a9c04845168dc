package offsets_test

import (
	"math"
	"math/rand"
	"slices"
	"testing"

	"towpath/api"
	"towpath/disk"
	"towpath/offsets"
	"towpath/part"
	"towpath/rec"
	"towpath/seglog"
)

// P14.2: the errors of the partition's Open, in its order.
func TestOpenErrors(t *testing.T) {
	good := newDisk(t)
	down := newDisk(t)
	down.Fuse(0)
	with := func(seg, gap, producers int) part.Config {
		return part.Config{Config: seglog.Config{Seg: seg, Gap: gap}, Producers: producers}
	}
	for _, c := range []struct {
		what   string
		d      *disk.Disk
		prefix string
		c      part.Config
		err    api.Errno
	}{
		{"a good one", good, "off", small, api.OK},
		{"the least of all", good, "a", with(64, 1, 1), api.OK},
		{"the most of all", good, "abcdefg9", with(api.MaxDisk, api.MaxDisk, 1024), api.OK},
		{"no producers", good, "off", with(64, 1, 0), api.ErrArg},
		{"too many producers", good, "off", with(64, 1, 1025), api.ErrArg},
		{"no disk", nil, "off", small, api.ErrNil},
		{"no disk and no producers", nil, "off", with(64, 1, -1), api.ErrArg},
		{"no disk and no prefix", nil, "", small, api.ErrNil},
		{"no prefix", good, "", small, api.ErrArg},
		{"a long prefix", good, "abcdefghi", small, api.ErrArg},
		{"a prefix of other signs", good, "o-f", small, api.ErrArg},
		{"a small Seg", good, "off", with(63, 1, 1), api.ErrArg},
		{"a great Seg", good, "off", with(api.MaxDisk+1, 1, 1), api.ErrArg},
		{"no Gap", good, "off", with(64, 0, 1), api.ErrArg},
		{"a great Gap", good, "off", with(64, api.MaxDisk+1, 1), api.ErrArg},
		{"a node that is down", down, "off", small, api.ErrDown},
		{"down, and a prefix that may not be", down, "", small, api.ErrArg},
	} {
		o, err := offsets.Open(c.d, c.prefix, c.c)
		if err != c.err || (o != nil) != (err == api.OK) {
			t.Errorf("%s: %v, %d, not %d", c.what, o, err, c.err)
		}
		if o != nil {
			agrees(t, c.what, o, nil)
		}
	}
	d, o := fresh(t, small)
	commits(t, o, 0, commit(1, 1))
	want(t, "a torn write", d.Append("off-00000000000.log", []byte{9, 0}), api.OK)
	want(t, "a snapshot that was not finished", d.Append("off.tmp", []byte{1}), api.OK)
	for fuse := range 2 {
		c := d.Crash(9)
		c.Fuse(fuse)
		if o, err := offsets.Open(c, "off", small); o != nil || err != api.ErrDown {
			t.Errorf("a fuse of %d: %v, %d", fuse, o, err)
		}
	}
	agrees(t, "behind a torn write", opened(t, d.Crash(9), small), o.Batches())
}

// P14.3: the commits' errors ahead of the partition's; what is refused changes nothing.
func TestPut(t *testing.T) {
	a, b, bad := commit(1, 10), commit(2, 20), commit(256, 0)
	last := int64(api.MaxTime)
	many := func(n int) []offsets.Commit {
		var l []offsets.Commit
		for i := range n {
			l = append(l, commit(i, int64(i)))
		}
		return l
	}
	for _, c := range []struct {
		what       string
		pid        int64
		epoch, seq int
		time       int64
		cs         []offsets.Commit
		again      bool
		err        api.Errno
	}{
		{"none", 3, 0, 0, 9, nil, false, api.ErrNone},
		{"an empty list", 3, 0, 0, 9, []offsets.Commit{}, false, api.ErrNone},
		{"none, and nothing else that may be", -1, -1, -1, -1, nil, false, api.ErrNone},
		{"one", 3, 0, 0, 9, []offsets.Commit{a}, false, api.OK},
		{"two", 3, 0, 0, 9, []offsets.Commit{a, b}, false, api.OK},
		{"one twice", 3, 0, 0, 9, []offsets.Commit{a, a}, false, api.OK},
		{"two of one Part", 3, 0, 0, 9, []offsets.Commit{commit(1, 5), commit(1, 4)}, false, api.OK},
		{"64", 3, 0, 0, 9, many(64), false, api.OK},
		{"65", 3, 0, 0, 9, many(65), false, api.ErrLong},
		{"65, the last one wrong", 3, 0, 0, 9, append(many(64), bad), false, api.ErrArg},
		{"the first one wrong", 3, 0, 0, 9, []offsets.Commit{bad, a}, false, api.ErrArg},
		{"a later one wrong", 3, 0, 0, 9, []offsets.Commit{a, b, bad}, false, api.ErrArg},
		{"time -1", 3, 0, 0, -1, []offsets.Commit{a}, false, api.ErrArg},
		{"time 0", 3, 0, 0, 0, []offsets.Commit{a}, false, api.OK},
		{"time MaxTime", 3, 0, 0, last, []offsets.Commit{a}, false, api.OK},
		{"time MaxTime + 1", 3, 0, 0, last + 1, []offsets.Commit{a}, false, api.ErrArg},
		{"pid 0", 0, 0, 0, 9, []offsets.Commit{a}, false, api.ErrArg},
		{"pid 0 and a Seq", 0, 0, 1, 9, []offsets.Commit{a}, false, api.ErrArg},
		{"pid -1", -1, 0, 0, 9, []offsets.Commit{a}, false, api.ErrArg},
		{"the last pid", api.MaxPid, 0, 0, 9, []offsets.Commit{a}, false, api.OK},
		{"one above it", api.MaxPid + 1, 0, 0, 9, []offsets.Commit{a}, false, api.ErrArg},
		{"epoch -1", 3, -1, 0, 9, []offsets.Commit{a}, false, api.ErrArg},
		{"the last epoch", 3, api.MaxEpoch, 0, 9, []offsets.Commit{a}, false, api.OK},
		{"one above it", 3, api.MaxEpoch + 1, 0, 9, []offsets.Commit{a}, false, api.ErrArg},
		{"Seq -1", 3, 0, -1, 9, []offsets.Commit{a}, false, api.ErrArg},
		{"Seq 1 first", 3, 0, 1, 9, []offsets.Commit{a}, false, api.ErrOrder},
		{"a Seq above all", 3, 0, api.MaxSeq + 1, 9, []offsets.Commit{a}, false, api.ErrArg},
		{"Seqs that run out", 3, 0, api.MaxSeq, 9, []offsets.Commit{a, b}, false, api.ErrExhausted},
		{"the last Seq, which is not the next", 3, 0, api.MaxSeq, 9, []offsets.Commit{a}, false, api.ErrOrder},
		{"the next Seq", 1, 1, 2, 9, []offsets.Commit{a}, false, api.OK},
		{"the Seq behind it", 1, 1, 3, 9, []offsets.Commit{a}, false, api.ErrOrder},
		{"the same again", 1, 1, 0, 9, []offsets.Commit{a, b}, true, api.OK},
		{"the same Seqs with other commits", 1, 1, 0, 5, []offsets.Commit{b, b}, true, api.OK},
		{"a part of it again", 1, 1, 1, 9, []offsets.Commit{b}, true, api.OK},
		{"the same again, and a wrong one", 1, 1, 0, 9, []offsets.Commit{a, bad}, false, api.ErrArg},
		{"again and more", 1, 1, 1, 9, []offsets.Commit{b, b}, false, api.ErrOrder},
		{"an epoch that has passed", 1, 0, 0, 9, []offsets.Commit{a}, false, api.ErrFenced},
		{"an epoch that has passed, its own batch", 2, 0, 0, 9, []offsets.Commit{a}, false, api.ErrFenced},
		{"an epoch that has passed, and a wrong one", 1, 0, 0, 9, []offsets.Commit{bad}, false, api.ErrArg},
		{"a later epoch within a transaction", 1, 2, 0, 9, []offsets.Commit{a}, false, api.ErrState},
		{"a later epoch behind a marker", 2, 1, 0, 9, []offsets.Commit{a}, false, api.OK},
		{"a much later one", 2, 77, 0, 9, []offsets.Commit{a}, false, api.OK},
		{"a later one with a Seq", 2, 1, 1, 9, []offsets.Commit{a}, false, api.ErrOrder},
	} {
		for _, config := range []part.Config{small, wide} {
			w := newTwin(t, config)
			w.put(t, 2, 0, 0, 9, a)
			w.mark(t, 1, 0, false, 9)
			w.put(t, 1, 1, 0, 9, a, b)
			w.mark(t, 2, 0, true, 9)
			before := content(w.d)
			again, err := w.put(t, c.pid, c.epoch, c.seq, c.time, c.cs...)
			if again != c.again || err != c.err {
				t.Errorf("%s: %v, %d, not %v, %d", c.what, again, err, c.again, c.err)
			}
			if changed := content(w.d) != before; changed != (err == api.OK && !again) {
				t.Errorf("%s: changed: %v", c.what, changed)
			}
			w.crash(t)
			w.same(t, c.what+", behind a crash")
			if again, e := w.put(t, c.pid, c.epoch, c.seq, c.time, c.cs...); again != (c.err == api.OK) || e != c.err {
				t.Errorf("%s, repeated: %v, %d", c.what, again, e)
			}
		}
	}
}

// P14.3: each commit that may not be is refused, wherever it stands, and nothing of its Put is there.
func TestPutWrong(t *testing.T) {
	for _, f := range faults {
		c := commit(7, 300)
		f.do(&c)
		for _, cs := range [][]offsets.Commit{{c}, {c, commit(1, 1)}, {commit(1, 1), c}, {commit(1, 1), c, commit(2, 2)}, {c, commit(-1, -1)}} {
			w := newTwin(t, small)
			ok := !slices.ContainsFunc(cs, wrong)
			if again, err := w.put(t, 3, 0, 0, 9, cs...); again || (err == api.OK) != ok || !ok && err != api.ErrArg {
				t.Errorf("%s, %v: %v, %d", f.what, cs, again, err)
			}
			if len(w.Batches()) > 0 != ok || len(w.Waiting()) > 0 != ok {
				t.Errorf("%s, %v: %v", f.what, cs, w.Batches())
			}
		}
	}
}

// P14.3: the error that a table of producers without room tells.
func TestManyProducers(t *testing.T) {
	w := newTwin(t, part.Config{Config: small.Config, Producers: 2})
	w.put(t, 1, 0, 0, 9, commit(1, 1))
	w.put(t, 2, 0, 0, 9, commit(2, 2))
	for _, err := range []api.Errno{second(w.put(t, 3, 0, 0, 9, commit(3, 3))), second(w.mark(t, 3, 0, true, 9))} {
		want(t, "a third producer", err, api.ErrFull)
	}
	want(t, "the second one", second(w.put(t, 2, 0, 1, 9, commit(2, 3))), api.OK)
}

func second(_ bool, err api.Errno) api.Errno { return err }

// P14.3: markers of transactions that are open, that were ended, and that never were.
func TestMark(t *testing.T) {
	for _, c := range []struct {
		what  string
		pid   int64
		epoch int
		time  int64
		again bool
		err   api.Errno
	}{
		{"an open one", 1, 1, 9, false, api.OK},
		{"an open one, at time 0", 1, 1, 0, false, api.OK},
		{"an open one, at MaxTime", 1, 1, api.MaxTime, false, api.OK},
		{"an open one, at -1", 1, 1, -1, false, api.ErrArg},
		{"an open one, behind MaxTime", 1, 1, api.MaxTime + 1, false, api.ErrArg},
		{"an epoch that has passed", 1, 0, 9, true, api.OK},
		{"a later epoch", 1, 2, 9, false, api.ErrState},
		{"one that was ended", 2, 0, 9, true, api.OK},
		{"the next epoch of it", 2, 1, 9, false, api.OK},
		{"one that never was", 5, 0, 9, false, api.OK},
		{"one that never was, of the last epoch", 5, api.MaxEpoch, 9, false, api.OK},
		{"epoch -1", 5, -1, 9, false, api.ErrArg},
		{"an epoch above all", 5, api.MaxEpoch + 1, 9, false, api.ErrArg},
		{"pid 0", 0, 0, 9, false, api.ErrArg},
		{"pid -1", -1, 0, 9, false, api.ErrArg},
		{"the last pid", api.MaxPid, 0, 9, false, api.OK},
		{"one above it", api.MaxPid + 1, 0, 9, false, api.ErrArg},
		{"extreme numbers", math.MinInt64, math.MinInt, math.MinInt64, false, api.ErrArg},
	} {
		for _, commits := range []bool{false, true} {
			w := newTwin(t, small)
			w.put(t, 2, 0, 0, 9, commit(2, 20))
			w.mark(t, 2, 0, true, 9)
			w.put(t, 1, 1, 0, 9, commit(1, 10))
			before := content(w.d)
			again, err := w.mark(t, c.pid, c.epoch, commits, c.time)
			if again != c.again || err != c.err {
				t.Errorf("%s: %v, %d, not %v, %d", c.what, again, err, c.again, c.err)
			}
			if changed := content(w.d) != before; changed != (err == api.OK && !again) {
				t.Errorf("%s: changed: %v", c.what, changed)
			}
			w.crash(t)
			w.same(t, c.what+", behind a crash")
			if again, err := w.mark(t, c.pid, c.epoch, !commits, c.time); again != (c.err == api.OK) || err != c.err {
				t.Errorf("%s, then the other way: %v, %d", c.what, again, err)
			}
			want(t, "Put behind it", second(w.put(t, 2, 0, 1, 9, commit(2, 21))), api.ErrFenced)
		}
	}
}

// P14.4, P14.6: what is reported within transactions, behind their ends, and as long as an elder one is open.
func TestTransactions(t *testing.T) {
	d, o := fresh(t, small)
	a, b, c := commit(1, 10), commit(2, 20), commit(1, 11)
	check := func(what string, waiting []offsets.Pending, all ...offsets.Commit) {
		t.Helper()
		for how, o := range map[string]*offsets.Offsets{"": o, ", opened again": opened(t, d.Crash(), small)} {
			allAre(t, what+how, o, all...)
			waitingAre(t, what+how, o, waiting...)
			agrees(t, what+how, o, o.Batches())
		}
	}
	check("empty", nil)
	puts(t, o, 1, 0, 0, a, b)
	elder := []offsets.Pending{pending(1, 0, a), pending(1, 0, b)}
	check("within the first", elder)
	puts(t, o, 2, 4, 0, c)
	check("within two", append(slices.Clone(elder), pending(2, 4, c)))
	marks(t, o, 2, 4, true)
	check("the second one committed, the elder open", elder)
	puts(t, o, 3, 0, 0, commit(3, 30), commit(3, 5))
	marks(t, o, 3, 0, false)
	puts(t, o, 1, 0, 2, commit(2, 19))
	elder = append(elder, pending(1, 0, commit(2, 19)))
	check("the third one aborted, the elder open", elder)
	puts(t, o, 4, 0, 0, commit(2, 18))
	check("a fourth one", append(slices.Clone(elder), pending(4, 0, commit(2, 18))))
	marks(t, o, 1, 0, true)
	check("the elder committed: what the log has last stands", []offsets.Pending{pending(4, 0, commit(2, 18))}, c, commit(2, 19))
	marks(t, o, 4, 0, true)
	check("the fourth one committed", nil, c, commit(2, 18))
	puts(t, o, 5, 0, 0, commit(2, 50), commit(9, 90))
	check("a fifth one", []offsets.Pending{pending(5, 0, commit(2, 50)), pending(5, 0, commit(9, 90))}, c, commit(2, 18))
	marks(t, o, 5, 0, false)
	check("it aborted", nil, c, commit(2, 18))
	puts(t, o, 6, 0, 0, commit(9, 90), commit(9, 91))
	puts(t, o, 6, 0, 2, commit(9, 89))
	marks(t, o, 6, 0, true)
	check("a Part three times in one", nil, c, commit(2, 18), commit(9, 89))
	marks(t, o, 7, 3, true)
	check("a marker of none", nil, c, commit(2, 18), commit(9, 89))
	puts(t, o, 5, 1, 0, commit(0, 0), commit(255, api.MaxOffset))
	marks(t, o, 5, 1, true)
	check("the first and the last Part", nil, commit(0, 0), c, commit(2, 18), commit(9, 89), commit(255, api.MaxOffset))
}

// junk are records that are not those of a commit.
func junk() []api.Record {
	good := recorded(commit(3, 33), 9)
	return []api.Record{
		{}, {Key: "k", Value: good.Value, Time: 9}, {Key: "o256", Value: good.Value, Time: 9}, {Key: "o0003", Value: good.Value, Time: 9},
		{Key: "o004", Value: good.Value + "\x00", Time: 9}, {Key: "o005", Time: 9}, {Key: "o006", Gone: true, Time: 9}, {Key: "o+07", Value: good.Value, Time: 9},
	}
}

// P14.2, P14.4: plain batches; records of no commit are ignored, also those with the key of one.
func TestForeign(t *testing.T) {
	w := newTwin(t, small)
	plain := func(rs ...api.Record) api.Batch { return api.Batch{Time: 9, L: rs} }
	want(t, "junk", w.foreign(t, plain(junk()...)), api.OK)
	allAre(t, "junk", w.Offsets)
	want(t, "a plain commit", w.foreign(t, plain(recorded(commit(1, 1), 9), recorded(commit(2, 2), 9))), api.OK)
	allAre(t, "plain commits", w.Offsets, commit(1, 1), commit(2, 2))
	want(t, "of a producer", w.foreign(t, api.Batch{Pid: 1, Time: 9, L: []api.Record{recorded(commit(2, 3), 4), {Key: "o001"}}}), api.OK)
	allAre(t, "a plain commit of a producer", w.Offsets, commit(1, 1), commit(2, 3))
	want(t, "gone", w.foreign(t, plain(api.Record{Key: "o001", Gone: true, Time: 1}, api.Record{Key: "o002", Value: "\x00"})), api.OK)
	allAre(t, "records of the same keys", w.Offsets, commit(1, 1), commit(2, 3))
	w.put(t, 2, 0, 0, 9, commit(2, 4))
	want(t, "behind an open transaction", w.foreign(t, plain(recorded(commit(1, 5), 9))), api.OK)
	allAre(t, "behind an open transaction", w.Offsets, commit(1, 1), commit(2, 3))
	waitingAre(t, "behind an open transaction", w.Offsets, pending(2, 0, commit(2, 4)))
	mixed := api.Batch{Pid: 3, Kind: api.Part, Time: 9, L: append(junk(), recorded(commit(7, 7), 2), api.Record{Key: "o008"})}
	want(t, "junk in a transaction", w.foreign(t, mixed), api.OK)
	waitingAre(t, "junk in a transaction", w.Offsets, pending(2, 0, commit(2, 4)), pending(3, 0, commit(7, 7)))
	w.mark(t, 2, 0, true, 9)
	allAre(t, "the elder one committed", w.Offsets, commit(1, 5), commit(2, 4))
	w.mark(t, 3, 0, true, 9)
	allAre(t, "all committed", w.Offsets, commit(1, 5), commit(2, 4), commit(7, 7))
	if n := len(w.Committed()); n != 8+2+2+2+1+1+10 {
		t.Errorf("Committed: %d records", n)
	}
}

// P14.3, P14.4: Clean keeps of each key the last record. Plain commits stay as others do; one goes where a record that is none of a commit has its key, and it does so at once, as when it is opened again.
func TestForeignClean(t *testing.T) {
	w := newTwin(t, small)
	one := func(r api.Record) api.Batch { return api.Batch{Time: 9, L: []api.Record{r}} }
	for _, r := range []api.Record{recorded(commit(1, 1), 9), {Key: "k"}, recorded(commit(1, 2), 9), recorded(commit(2, 2), 9), {Key: "o256", Value: "v"}, {Key: "k", Gone: true}, {Key: "o009", Value: "v"}} {
		want(t, "Append", w.foreign(t, one(r)), api.OK)
	}
	w.put(t, 2, 0, 0, 9, commit(3, 3))
	w.mark(t, 2, 0, true, 9)
	w.put(t, 2, 1, 0, 9, commit(4, 4))
	w.put(t, 2, 1, 1, 9, commit(4, 5))
	check := func(what string, l ...offsets.Commit) {
		t.Helper()
		for range 2 {
			allAre(t, what, w.Offsets, l...)
			waitingAre(t, what, w.Offsets, pending(2, 1, commit(4, 4)), pending(2, 1, commit(4, 5)))
			w.crash(t)
		}
	}
	check("plain ones", commit(1, 2), commit(2, 2), commit(3, 3))
	if n := w.clean(t, 9); n < 2 {
		t.Errorf("Clean: %d", n)
	}
	check("plain ones, cleaned", commit(1, 2), commit(2, 2), commit(3, 3))
	w.mark(t, 2, 1, false, 9)
	for range 3 {
		want(t, "Append", w.foreign(t, one(api.Record{Key: "o002", Value: "none"})), api.OK)
	}
	allAre(t, "one with the key of a commit", w.Offsets, commit(1, 2), commit(2, 2), commit(3, 3))
	w.clean(t, 9)
	for range 2 {
		allAre(t, "one with the key of a commit, cleaned", w.Offsets, commit(1, 2), commit(3, 3))
		w.crash(t)
	}
}

// P14.3, P14.4: what went by Clean of the commits that others followed; all that stands is still there, and what waits.
func TestClean(t *testing.T) {
	for _, c := range []struct {
		horizon int64
		n       int
	}{{math.MinInt64, 3}, {0, 3}, {9, 3}, {math.MaxInt64, 3}} {
		d, o := fresh(t, small)
		commits(t, o, 0, commit(1, 1), commit(2, 2), commit(1, 2))
		puts(t, o, 4, 0, 0, commit(3, 9))
		marks(t, o, 4, 0, false)
		commits(t, o, 3, commit(1, 3))
		puts(t, o, 5, 0, 0, commit(2, 8), commit(3, 8))
		commits(t, o, 4, commit(1, 4))
		batches := len(o.Batches())
		n, err := o.Clean(c.horizon)
		if n != c.n || err != api.OK || len(o.Batches()) >= batches {
			t.Errorf("Clean(%d): %d, %d, then %v", c.horizon, n, err, o.Batches())
		}
		for how, o := range map[string]*offsets.Offsets{"at once": o, "opened again": opened(t, d.Crash(), small)} {
			allAre(t, how, o, commit(1, 3), commit(2, 2))
			waitingAre(t, how, o, pending(5, 0, commit(2, 8)), pending(5, 0, commit(3, 8)))
			agrees(t, how, o, o.Batches())
			if again, err := o.Put(5, 0, 0, 9, commit(2, 8), commit(3, 8)); !again || err != api.OK {
				t.Errorf("%s: the same Put: %v, %d", how, again, err)
			}
			want(t, how+": an epoch of before", second(o.Put(1, 3, 0, 9, commit(1, 9))), api.ErrFenced)
		}
		if n, err := o.Clean(c.horizon); n != 0 || err != api.OK {
			t.Errorf("Clean(%d) twice: %d, %d", c.horizon, n, err)
		}
		marks(t, o, 5, 0, true)
		allAre(t, "then the open one ended", o, commit(1, 4), commit(2, 8), commit(3, 8))
	}
	_, o := fresh(t, small)
	for _, horizon := range []int64{-1, 0, 9} {
		if n, err := o.Clean(horizon); n != 0 || err != api.OK {
			t.Errorf("Clean of nothing: %d, %d", n, err)
		}
	}
}

// P14.4: a file may hold a batch that its partition would not have taken, as its transaction was aborted. It is of no open transaction, nor of a committed one.
func TestForged(t *testing.T) {
	d := newDisk(t)
	l, err := seglog.Open(d, "off", small.Config)
	want(t, "seglog.Open", err, api.OK)
	_, err = l.Append(batch(4, 0, 0, 9, commit(1, 1)), rec.Mark(4, 0, false, 9), batch(4, 0, 1, 9, commit(2, 2)))
	want(t, "Append", err, api.OK)
	o := opened(t, d, small)
	allAre(t, "behind an Abort", o)
	waitingAre(t, "behind an Abort", o)
	if n := len(o.Batches()); n != 3 {
		t.Errorf("%d batches", n)
	}
	commits(t, o, 0, commit(3, 3))
	allAre(t, "another one committed", o, commit(3, 3))
}

// Rules 4 and 5: neither arguments nor results are shared.
func TestShared(t *testing.T) {
	d, o := fresh(t, small)
	cs := append(make([]offsets.Commit, 0, 8), commit(1, 1), commit(2, 2))
	puts(t, o, 1, 0, 0, cs...)
	if !slices.Equal(cs, []offsets.Commit{commit(1, 1), commit(2, 2)}) || cs[:3][2] != (offsets.Commit{}) {
		t.Error("Put changed its commits", cs[:3])
	}
	marks(t, o, 1, 0, true)
	puts(t, o, 1, 1, 0, cs...)
	before := seen(o)
	cs[0], cs[1] = commit(9, 9), commit(8, 8)
	for range 2 {
		o.All()[0] = commit(5, 5)
		o.Waiting()[0] = pending(5, 5, commit(5, 5))
		o.Committed()[0].Key = "other"
		l := o.Batches()
		l[0].L[0].Value = "other"
		l[0].L = append(l[0].L[:1], api.Record{})
		l[1] = api.Batch{}
		_ = append(o.All()[:1], commit(5, 5))
		_ = append(o.Committed()[:1], rec.At{})
	}
	if seen(o) != before || seen(opened(t, d.Crash(), small)) != before {
		t.Errorf("writing into arguments and results: %s, not %s", seen(o), before)
	}
}

// Nil offsets, and such that Open did not make.
func TestNil(t *testing.T) {
	var o *offsets.Offsets
	want(t, "Put", second(o.Put(1, 0, 0, 9, commit(1, 1))), api.ErrNil)
	want(t, "Put of none", second(o.Put(1, 0, 0, 9)), api.ErrNil)
	want(t, "Put of one that may not be", second(o.Put(0, 0, 0, -1, commit(-1, 1))), api.ErrNil)
	want(t, "Mark", second(o.Mark(1, 0, true, 9)), api.ErrNil)
	want(t, "Mark that may not be", second(o.Mark(0, -1, true, -1)), api.ErrNil)
	if n, err := o.Clean(0); n != 0 || err != api.ErrNil {
		t.Errorf("Clean: %d, %d", n, err)
	}
	agrees(t, "nil", o, nil)
	o = &offsets.Offsets{}
	agrees(t, "not opened", o, nil)
	if again, err := o.Put(1, 0, 0, 9, commit(1, 1)); again || err == api.OK {
		t.Errorf("not opened: Put: %v, %d", again, err)
	}
	o.Mark(1, 0, true, 9)
	o.Clean(9)
}

// P14.2 to P14.6: by chance, beside a partition, with a model that looks for the first marker.
func TestMany(t *testing.T) {
	configs := []part.Config{small, wide, {Config: seglog.Config{Seg: 150, Gap: 1}, Producers: 3}}
	for seed := range int64(60) {
		rnd := rand.New(rand.NewSource(seed))
		w := newTwin(t, configs[seed%3])
		r := &run{twin: w, rnd: rnd, epochs: map[int64]int{}, seqs: map[int64]int{}, shares: seed%2 == 0}
		for range 40 {
			r.step(t)
			if t.Failed() {
				t.Fatal("seed", seed)
			}
		}
	}
}

// run is what a model's producers would send next.
type run struct {
	*twin
	rnd    *rand.Rand
	epochs map[int64]int
	seqs   map[int64]int
	stood  []rec.At // committed so far, as long as nothing was cleaned
	shares bool     // whether records that are not those of commits may have the keys of such
}

func (r *run) step(t *testing.T) {
	t.Helper()
	pid := int64(1 + r.rnd.Intn(4))
	time := int64(r.rnd.Intn(20))
	epoch, seq := r.epochs[pid], r.seqs[pid]
	switch n := r.rnd.Intn(20); {
	case n < 8:
		cs := r.someCommits()
		if r.rnd.Intn(5) == 0 {
			epoch, seq = epoch+r.rnd.Intn(3)-1, seq+r.rnd.Intn(3)-1
		}
		if again, err := r.put(t, pid, epoch, seq, time, cs...); !again && err == api.OK {
			r.epochs[pid], r.seqs[pid] = epoch, seq+len(cs)
		}
	case n < 14:
		if r.rnd.Intn(8) == 0 {
			epoch += r.rnd.Intn(3) - 1
		}
		if again, err := r.mark(t, pid, epoch, r.rnd.Intn(3) > 0, time); !again && err == api.OK {
			r.epochs[pid], r.seqs[pid] = epoch+1, 0
		}
	case n < 16:
		if b := r.someBatch(pid, epoch, seq); r.foreign(t, b) == api.OK && b.Pid != 0 {
			r.seqs[pid] += len(b.L)
		}
	case n < 17:
		all, waiting := r.All(), r.Waiting()
		r.clean(t, int64(r.rnd.Intn(25)-2))
		if !r.shares {
			allAre(t, "what stood ahead of a Clean", r.Offsets, all...)
		}
		waitingAre(t, "what waited ahead of a Clean", r.Offsets, waiting...)
		r.stood = nil
	default:
		r.crash(t, r.rnd.Intn(40))
		r.same(t, "opened again")
	}
	now := r.Committed()
	if len(now) < len(r.stood) || !slices.Equal(now[:len(r.stood)], r.stood) {
		t.Errorf("committed, and revoked: %v, then %v", r.stood, now)
	}
	r.stood = now
}

func (r *run) someCommits() []offsets.Commit {
	var cs []offsets.Commit
	for range r.rnd.Intn(4) {
		c := someCommit(r.rnd)
		c.Part %= 5
		if r.rnd.Intn(40) == 0 {
			faults[r.rnd.Intn(len(faults))].do(&c)
		}
		cs = append(cs, c)
	}
	return cs
}

// someBatch is plain, of nobody, or one that producer pid might send if it did so by the partition itself.
func (r *run) someBatch(pid int64, epoch, seq int) api.Batch {
	b := api.Batch{Time: 9}
	if r.rnd.Intn(2) == 0 {
		b.Pid, b.Epoch, b.Seq, b.Kind = pid, epoch, seq, r.rnd.Intn(2)
	}
	for range 1 + r.rnd.Intn(2) {
		x := recorded(commit(r.rnd.Intn(5), int64(r.rnd.Intn(99))), 9)
		n := r.rnd.Intn(6)
		if n == 0 || n < 3 && !r.shares {
			x.Key = "k" + x.Key
		}
		switch n {
		case 1:
			x.Value += "\x00"
		case 2:
			x.Value, x.Gone = "", true
		}
		b.L = append(b.L, x)
	}
	return b
}
