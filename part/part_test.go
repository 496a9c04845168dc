package part_test

import (
	"fmt"
	"math"
	"math/rand"
	"slices"
	"strings"
	"testing"

	"towpath/api"
	"towpath/disk"
	"towpath/part"
	"towpath/rec"
	"towpath/seglog"
)

// The chapter's example.
func TestExample(t *testing.T) {
	_, p := fresh(t, small)
	b := api.Batch{Pid: 3, Kind: api.Part, L: []api.Record{{Key: "k", Value: "v"}}}
	for _, again := range []bool{false, true} {
		if at, a, err := p.Append(b); at != 0 || a != again || err != api.OK {
			t.Errorf("Append: %d, %v, %d", at, a, err)
		}
	}
	reads(t, "ahead of the marker", p, 0, 9, true, 0)
	reads(t, "ahead of the marker", p, 0, 9, false, 1, 0)
	if at, again, err := p.Mark(3, 0, true, 0); at != 1 || again || err != api.OK {
		t.Errorf("Mark: %d, %v, %d", at, again, err)
	}
	reads(t, "behind the marker", p, 0, 9, true, 2, 0)
}

// reads holds what Read answers against the next offset and the offsets of records that are wanted.
func reads(t *testing.T, what string, p *part.Part, offset int64, most int, committed bool, next int64, offsets ...int64) {
	t.Helper()
	l, n, err := p.Read(offset, most, committed)
	var got []int64
	for _, r := range l {
		got = append(got, r.Offset)
	}
	if n != next || err != api.OK || !slices.Equal(got, offsets) {
		t.Errorf("%s: Read(%d, %d, %v): %v, %d, %d, not %v, %d", what, offset, most, committed, got, n, err, offsets, next)
	}
	all := rec.Flat(p.Batches()...)
	for _, r := range l {
		if !slices.Contains(all, r) {
			t.Errorf("%s: Read(%d, %d, %v): %v is no record of the log", what, offset, most, committed, r)
		}
	}
}

// P10.2: each error, ahead of all later ones.
func TestRefused(t *testing.T) {
	long := txn(1, 0, 0, 1)
	long.L[0].Key = strings.Repeat("x", api.MaxText+1)
	numbered := commit(1, 1)
	numbered.Seq = 1
	for _, c := range []struct {
		what string
		b    api.Batch
		err  api.Errno
	}{
		{"no records", api.Batch{}, api.ErrArg},
		{"a Kind that there is not", api.Batch{Kind: 4, Pid: 1, L: records("k", 0, 1)}, api.ErrArg},
		{"a Pid below 0", txn(-1, 0, 0, 1), api.ErrArg},
		{"a Pid too great", txn(api.MaxPid+1, 0, 0, 1), api.ErrArg},
		{"nobody's Part", txn(0, 0, 0, 1), api.ErrArg},
		{"too many records", txn(1, 0, 0, api.MaxRecords+1), api.ErrLong},
		{"too long a key, of a past epoch", long, api.ErrLong},
		{"a past epoch", txn(1, 0, 0, 1), api.ErrFenced},
		{"a past epoch, plain", owned(1, 0, 7, 1), api.ErrFenced},
		{"another epoch than that of an open transaction", txn(2, 1, 0, 1), api.ErrState},
		{"plain beside an open transaction", owned(2, 0, 3, 1), api.ErrState},
		{"plain beside an open transaction, out of order", owned(2, 0, 7, 1), api.ErrState},
		{"out of order", txn(2, 0, 4, 1), api.ErrOrder},
		{"partly there", txn(2, 0, 2, 2), api.ErrOrder},
		{"an epoch that does not begin with 0", txn(3, 1, 1, 1), api.ErrOrder},
		{"a new producer that does not begin with 0", txn(5, 0, 1, 1), api.ErrOrder},
		{"a producer too many", txn(5, 0, 0, 1), api.ErrFull},
		{"a producer too many, plain", owned(5, 0, 0, 1), api.ErrFull},
		{"a marker of a producer too many", commit(5, 0), api.ErrFull},
		{"a marker of nobody", commit(0, 0), api.ErrArg},
		{"a marker of no epoch", commit(1, -1), api.ErrArg},
		{"a marker with a time too late", rec.Mark(1, 1, true, api.MaxTime+1), api.ErrArg},
		{"a marker of another epoch than that of an open transaction", commit(2, 1), api.ErrState},
	} {
		d, p := fresh(t, small)
		puts(t, p, txn(1, 0, 0, 1), commit(1, 0), txn(2, 0, 0, 2), txn(2, 0, 2, 1), owned(3, 0, 0, 1), owned(4, 0, 0, 1))
		takes(t, c.what, d, p, c.b, 0, false, c.err)
	}
	d, p := fresh(t, small)
	puts(t, p, txn(1, 0, 0, 1))
	for _, b := range []api.Batch{commit(1, 0), abort(1, 0), numbered, commit(0, 0), commit(-1, 7)} {
		before, files := seen(p), content(d)
		if at, again, err := p.Append(b); at != 0 || again || err != api.ErrArg {
			t.Errorf("Append of the marker %v: %d, %v, %d", b, at, again, err)
		}
		if seen(p) != before || content(d) != files {
			t.Errorf("Append of the marker %v changed something", b)
		}
	}
	if again, err := p.Ask(numbered); again || err != api.ErrArg {
		t.Errorf("Ask of a marker with a Seq: %v, %d", again, err)
	}
}

// P10.2: the view refuses what the table takes, behind Expire, and for want of room.
func TestRefusedByView(t *testing.T) {
	d, p := fresh(t, small)
	puts(t, p, txn(1, 0, 0, 1), abort(1, 0), txn(2, 0, 0, 1), commit(2, 0))
	if n, err := p.Expire(6); n != 2 || err != api.OK {
		t.Fatalf("Expire: %d, %d", n, err)
	}
	takes(t, "a Part of an aborted transaction", d, p, txn(1, 0, 0, 1), 0, false, api.ErrFenced)
	takes(t, "a Commit of an aborted transaction", d, p, commit(1, 0), 0, false, api.ErrFenced)
	takes(t, "an Abort of an aborted transaction", d, p, abort(1, 0), 0, false, api.ErrFenced)
	takes(t, "a Part of a committed transaction", d, p, txn(2, 0, 0, 1), 4, false, api.OK)
	takes(t, "a plain batch", d, p, owned(1, 0, 0, 1), 5, false, api.OK)
	takes(t, "the next epoch", d, p, txn(1, 1, 0, 1), 6, false, api.OK)

	d, _ = disk.New(api.MaxDisk)
	p = opened(t, d, wide)
	for epoch := range 4096 {
		puts(t, p, txn(1, epoch, 0, 1), abort(1, epoch))
	}
	puts(t, p, txn(1, 4096, 0, 1))
	if again, err := p.Ask(abort(1, 4096)); again || err != api.ErrFull {
		t.Errorf("Ask of an Abort too many: %v, %d", again, err)
	}
	if at, again, err := p.Mark(1, 4096, false, 5); at != 0 || again || err != api.ErrFull || p.Next() != 8193 {
		t.Errorf("an Abort too many: %d, %v, %d", at, again, err)
	}
	want(t, "Snapshot of a full view", p.Snapshot(), api.OK)
	q := opened(t, d.Crash(), wide)
	if again, err := q.Ask(abort(1, 4096)); again || err != api.ErrFull || q.Stable() != 8192 {
		t.Errorf("Ask of an Abort too many behind a crash: %v, %d", again, err)
	}
	puts(t, q, commit(1, 4096))
}

// P10.2: batches that come again, whole and in part, and epochs.
func TestAgain(t *testing.T) {
	d, p := fresh(t, small)
	puts(t, p, plain("a", 0), txn(1, 0, 0, 2), txn(1, 0, 2, 3), plain("a", 1))
	for _, c := range []struct {
		what string
		b    api.Batch
		at   int64
	}{
		{"the last batch", txn(1, 0, 2, 3), 3},
		{"the last batch, plain", owned(1, 0, 2, 3), 3},
		{"the one ahead of it", txn(1, 0, 0, 2), -1},
		{"both as one", txn(1, 0, 0, 5), -1},
		{"the last one's begin", txn(1, 0, 2, 2), -1},
		{"the last one's end", txn(1, 0, 3, 2), -1},
		{"the last record", txn(1, 0, 4, 1), -1},
		{"the first record", txn(1, 0, 0, 1), -1},
	} {
		takes(t, c.what, d, p, c.b, c.at, true, api.OK)
	}
	takes(t, "more than is there", d, p, txn(1, 0, 0, 6), 0, false, api.ErrOrder)
	takes(t, "what follows", d, p, txn(1, 0, 5, 1), 7, false, api.OK)
	takes(t, "the marker", d, p, commit(1, 0), 8, false, api.OK)
	takes(t, "the marker again", d, p, commit(1, 0), -1, true, api.OK)
	takes(t, "the other marker", d, p, abort(1, 0), -1, true, api.OK)
	takes(t, "a batch of the epoch that ended", d, p, txn(1, 0, 6, 1), 0, false, api.ErrFenced)
	takes(t, "a batch of the next epoch", d, p, owned(1, 1, 0, 1), 9, false, api.OK)
	takes(t, "it again", d, p, owned(1, 1, 0, 1), 9, true, api.OK)
	takes(t, "a batch of an epoch far above", d, p, txn(1, 9, 0, 1), 10, false, api.OK)
	takes(t, "a marker of a past epoch", d, p, commit(1, 8), -1, true, api.OK)
	takes(t, "nobody's batch again", d, p, plain("a", 1), 11, false, api.OK)
}

// P10.2: markers with and without an open transaction.
func TestMark(t *testing.T) {
	d, p := fresh(t, small)
	takes(t, "a producer that nobody knows", d, p, commit(1, 5), 0, false, api.OK)
	takes(t, "it again", d, p, commit(1, 5), -1, true, api.OK)
	takes(t, "an epoch below", d, p, abort(1, 4), -1, true, api.OK)
	takes(t, "the next epoch, without a batch", d, p, abort(1, 6), 1, false, api.OK)
	takes(t, "an epoch above", d, p, commit(1, api.MaxEpoch), 2, false, api.OK)
	takes(t, "behind the last epoch", d, p, txn(1, api.MaxEpoch, 0, 1), 0, false, api.ErrFenced)
	takes(t, "a plain batch", d, p, owned(2, 0, 0, 1), 3, false, api.OK)
	takes(t, "a marker behind a plain batch", d, p, abort(2, 0), 4, false, api.OK)
	reads(t, "a plain batch of an epoch that was aborted", p, 0, 99, true, 5, 3)
	takes(t, "an open transaction", d, p, txn(3, 0, 0, 1), 5, false, api.OK)
	takes(t, "its marker", d, p, abort(3, 0), 6, false, api.OK)
	reads(t, "an aborted transaction", p, 5, 99, true, 7)
	w := rec.Mark(2, 0, false, 5)
	w.Base = 4
	if !slices.ContainsFunc(p.Batches(), func(b api.Batch) bool { return rec.Same(b, w) }) {
		t.Errorf("no %v in %v", w, p.Batches())
	}
}

// P10.2: the Base that is handed in is nobody's matter.
func TestBase(t *testing.T) {
	for _, base := range []int64{0, 1, 7, -1, math.MinInt64, math.MaxInt64, api.MaxOffset + 1} {
		d, p := fresh(t, small)
		puts(t, p, plain("a", 0))
		b := txn(1, 0, 0, 2)
		b.Base = base
		takes(t, fmt.Sprint("Base ", base), d, p, b, 1, false, api.OK)
		takes(t, fmt.Sprint("Base ", base, " again"), d, p, b, 1, true, api.OK)
		m := commit(1, 0)
		m.Base = base
		if again, err := p.Ask(m); again || err != api.OK {
			t.Errorf("Ask of a marker with the Base %d: %v, %d", base, again, err)
		}
	}
}

// P10.2: the last offset. The log is one that another program left.
func TestLastOffset(t *testing.T) {
	d := newDisk(t)
	body := append([]byte{83}, []byte{0x80, 0x80, 0x80, 0x80, 0x80, 0x20}...) // the base is 2^40
	lay(t, d, "p-10000000000.log", framed(append(body, 0)))
	p := opened(t, d, small)
	if p.First() != api.MaxOffset || p.Next() != api.MaxOffset || p.Stable() != api.MaxOffset {
		t.Fatalf("offsets %d, %d, %d", p.First(), p.Next(), p.Stable())
	}
	takes(t, "two records", d, p, plain2(), 0, false, api.ErrExhausted)
	takes(t, "one record", d, p, txn(1, 0, 0, 1), api.MaxOffset, false, api.OK)
	takes(t, "behind the last offset", d, p, plain("a", 0), 0, false, api.ErrArg)
	takes(t, "a marker behind the last offset", d, p, commit(1, 0), 0, false, api.ErrArg)
	reads(t, "the last offset", p, api.MaxOffset, 9, false, api.MaxOffset+1, api.MaxOffset)
	same(t, "behind a crash", opened(t, d.Crash(), small), p)
	want(t, "Snapshot", p.Snapshot(), api.OK)
	same(t, "with a snapshot", opened(t, d.Crash(), small), p)
}

func plain2() api.Batch { return api.Batch{L: records("k", 0, 2)} }

// P10.3: errors, ahead of each other.
func TestReadErrors(t *testing.T) {
	_, p := fresh(t, small)
	puts(t, p, plain("a", 0), plain("a", 1), plain("a", 2))
	for _, c := range []struct {
		offset int64
		most   int
		err    api.Errno
	}{
		{0, 0, api.ErrArg}, {0, -1, api.ErrArg}, {0, math.MinInt, api.ErrArg}, {-1, 0, api.ErrArg}, {4, 0, api.ErrArg},
		{-1, 1, api.ErrRange}, {math.MinInt64, 1, api.ErrRange}, {4, 1, api.ErrRange}, {math.MaxInt64, 9, api.ErrRange},
		{0, 1, api.OK}, {3, 1, api.OK}, {3, math.MaxInt, api.OK},
	} {
		for _, committed := range []bool{false, true} {
			l, next, err := p.Read(c.offset, c.most, committed)
			if err != c.err || err != api.OK && (len(l) > 0 || next != 0) {
				t.Errorf("Read(%d, %d, %v): %v, %d, %d, not %d", c.offset, c.most, committed, l, next, err, c.err)
			}
		}
	}
}

// P10.3, P10.4: what is read, from everywhere, with none, one and more open transactions.
func TestRead(t *testing.T) {
	_, p := fresh(t, small)
	stable := func(what string, offset int64) {
		t.Helper()
		if p.Stable() != offset {
			t.Errorf("%s: Stable: %d, not %d", what, p.Stable(), offset)
		}
	}
	stable("nothing", 0)
	reads(t, "nothing", p, 0, 9, true, 0)
	puts(t, p, api.Batch{L: records("a", 0, 3)}) // 0 to 2
	stable("no transaction", 3)
	puts(t, p, txn(1, 0, 0, 2), plain("b", 0), txn(2, 0, 0, 2)) // 3, 4; 5; 6, 7
	stable("two open transactions", 3)
	reads(t, "all", p, 0, 9, false, 8, 0, 1, 2, 3, 4, 5, 6, 7)
	reads(t, "committed", p, 0, 9, true, 3, 0, 1, 2)
	reads(t, "in the middle", p, 1, 1, true, 3, 1, 2)
	reads(t, "at the last record", p, 2, 1, false, 3, 2)
	reads(t, "at the stable offset", p, 3, 9, true, 3)
	reads(t, "above the stable offset", p, 4, 9, true, 4)
	reads(t, "a plain batch above the stable offset", p, 5, 1, true, 5)
	reads(t, "at the next offset", p, 8, 9, true, 8)
	reads(t, "at the next offset", p, 8, 9, false, 8)
	reads(t, "in the middle of a transaction", p, 4, 2, false, 6, 4, 5)
	puts(t, p, abort(1, 0), plain("c", 0)) // 8, 9
	stable("one open transaction", 6)
	reads(t, "behind an Abort", p, 0, 9, true, 6, 0, 1, 2, 5)
	reads(t, "at most two batches", p, 0, 2, true, 5, 0, 1, 2)
	reads(t, "at most one batch, an aborted one", p, 3, 1, true, 5)
	reads(t, "in the middle of an aborted one", p, 4, 9, true, 6, 5)
	reads(t, "an aborted one, not as committed", p, 3, 1, false, 5, 3, 4)
	reads(t, "a marker, not as committed", p, 8, 1, false, 9)
	puts(t, p, commit(2, 0)) // 10
	stable("none open", 11)
	reads(t, "behind a Commit", p, 0, 99, true, 11, 0, 1, 2, 5, 6, 7, 9)
	reads(t, "in the middle of a committed one", p, 7, 99, true, 11, 7, 9)
	reads(t, "from a marker on", p, 8, 99, true, 11, 9)
	reads(t, "the last marker", p, 10, 99, true, 11)
	puts(t, p, txn(1, 1, 0, 1))
	reads(t, "up to the next transaction", p, 8, 99, true, 11, 9)
	reads(t, "one batch up to the next transaction", p, 10, 1, true, 11)
	reads(t, "one batch in the next transaction", p, 11, 1, true, 11)
}

// P10.4: Batches are those of the log.
func TestBatches(t *testing.T) {
	d, p := fresh(t, small)
	l := []api.Batch{plain("a", 0), txn(1, 0, 0, 2), commit(1, 0), owned(2, 0, 0, 1)}
	puts(t, p, l...)
	for i, base := range []int64{0, 1, 3, 4} {
		l[i].Base = base
	}
	if got := p.Batches(); !slices.EqualFunc(got, l, rec.Same) {
		t.Errorf("Batches: %v, not %v", got, l)
	}
	log, err := seglog.Open(d.Crash(), "p", small.Config)
	if err != api.OK || !slices.EqualFunc(log.All(), l, rec.Same) {
		t.Errorf("the log: %v, %d, not %v", log.All(), err, l)
	}
	if got := p.Batches(); p.First() != log.First() || p.Next() != log.Next() || len(got) != 4 {
		t.Errorf("offsets %d, %d, not %d, %d", p.First(), p.Next(), log.First(), log.Next())
	}
}

// P10.2: what is acknowledged is durable: nothing is left unsynced.
func TestSynced(t *testing.T) {
	d, p := fresh(t, small)
	for i := range 8 {
		puts(t, p, txn(1, i, 0, 1), commit(1, i))
		for _, name := range d.Names("") {
			if d.Kept(name) != d.Size(name) {
				t.Errorf("%d of %d bytes of %s are durable", d.Kept(name), d.Size(name), name)
			}
		}
	}
	same(t, "behind a crash", opened(t, d.Crash(), small), p)
}

// Rules 4 and 5.
func TestMemory(t *testing.T) {
	_, p := fresh(t, small)
	b := txn(1, 0, 0, 2)
	puts(t, p, b, commit(1, 0), plain("a", 0))
	before := seen(p)
	b.L[0].Key = "z"
	bs := p.Batches()
	bs[0].L[0].Key = "z"
	bs[0].L = append(bs[0].L[:1], api.Record{Key: "y"})
	bs[1] = api.Batch{}
	for _, committed := range []bool{false, true} {
		l, _, _ := p.Read(0, 9, committed)
		l[0].Key = "z"
		_ = append(l[:1], rec.At{})
	}
	if seen(p) != before {
		t.Errorf("who wrote into what was handed in or out changed the partition: %s, not %s", seen(p), before)
	}
	given := []api.Batch{txn(2, 0, 0, 2), owned(2, 0, 0, 2)}
	given[0].Base = 77
	kept := rec.Copy(given[0])
	p.Ask(given[0])
	p.Append(given[0])
	if !rec.Same(given[0], kept) {
		t.Errorf("Append changed %v to %v", kept, given[0])
	}
}

// Two partitions on a disk have nothing in common but its room, even if one's prefix begins the other's.
func TestTwo(t *testing.T) {
	d := newDisk(t)
	p := opened(t, d, small)
	q, err := part.Open(d, "pp", small)
	want(t, "Open", err, api.OK)
	puts(t, p, txn(1, 0, 0, 1), commit(1, 0), plain("a", 0), plain("a", 1), plain("a", 2))
	before := seen(p)
	puts(t, q, owned(1, 7, 0, 1), plain("b", 0), plain("b", 1), plain("b", 2), plain("b", 3))
	want(t, "Snapshot", q.Snapshot(), api.OK)
	if n, err := q.Compact(0); n == 0 || err != api.OK {
		t.Errorf("Compact: %d, %d", n, err)
	}
	if seen(p) != before {
		t.Error("one partition changed the other")
	}
	c := d.Crash()
	same(t, "behind a crash", opened(t, c, small), p)
	r, err := part.Open(c, "pp", small)
	want(t, "Open behind a crash", err, api.OK)
	same(t, "the other one behind a crash", r, q)
}

// All calls by chance, against the model, with crashes between them.
func TestMany(t *testing.T) {
	rnd := rand.New(rand.NewSource(1))
	for round := range 60 {
		c := small
		c.Seg, c.Producers = 64+rnd.Intn(100), 1+rnd.Intn(5)
		d, p := fresh(t, c)
		m := newModel(c.Producers)
		for step := range 60 {
			what := fmt.Sprint("round ", round, ", step ", step)
			switch rnd.Intn(25) {
			case 0:
				want(t, what+": Snapshot", p.Snapshot(), api.OK)
				m.snapshot()
			case 1:
				time := int64(rnd.Intn(25))
				if n, err := p.Expire(time); n != m.expire(time) || err != api.OK {
					t.Errorf("%s: Expire(%d): %d, %d", what, time, n, err)
				}
			case 2:
				horizon, wanted := int64(rnd.Intn(25)), 0
				wanted = m.compact(horizon, bases(d))
				if n, err := p.Compact(horizon); n != wanted || err != api.OK {
					t.Errorf("%s: Compact(%d): %d, %d, not %d", what, horizon, n, err, wanted)
				}
			case 3:
				d = d.Crash(rnd.Intn(3)-1, rnd.Intn(90))
				p, m = opened(t, d, c), m.crash()
			default:
				b := someBatch(rnd, m)
				asked, askErr := p.Ask(b)
				at, again, err := put(p, b)
				wat, wagain, werr := m.put(b)
				if at != wat || again != wagain || err != werr || asked != wagain || askErr != werr {
					t.Errorf("%s: put of %v: %d, %v, %d, Ask %v, %d, not %d, %v, %d", what, b, at, again, err, asked, askErr, wat, wagain, werr)
				}
			}
			holds(t, what, p, m)
			snapIs(t, what, d, m)
			if step%10 == 0 {
				agrees(t, what, p, m)
			}
		}
		agrees(t, fmt.Sprint("round ", round), p, m)
		if !matches(p, m) {
			t.Errorf("round %d: Ask differs", round)
		}
		if t.Failed() {
			return
		}
	}
}

// P10.10: of a transaction all records are read as committed, or none, as far as they are below the stable offset.
func TestAtomic(t *testing.T) {
	rnd := rand.New(rand.NewSource(2))
	whole := 0
	for range 40 {
		_, p := fresh(t, small)
		m := newModel(small.Producers)
		for range 60 {
			b := someBatch(rnd, m)
			m.put(b)
			put(p, b)
		}
		l, next, err := p.Read(0, 1000, true)
		if err != api.OK || next != p.Stable() {
			t.Errorf("Read: up to %d, %d, not %d", next, err, p.Stable())
		}
		read := map[int64]int{} // by offset
		for _, r := range l {
			read[r.Offset]++
		}
		ended, size, got := map[string]int{}, map[string]int{}, map[string]int{} // by producer and epoch
		for _, b := range p.Batches() {
			id := fmt.Sprint(b.Pid, " ", b.Epoch)
			switch {
			case isMarker(b):
				ended[id] = b.Kind
			case b.Kind == api.Part && b.Base < p.Stable():
				size[id] += len(b.L)
				for i := range b.L {
					got[id] += read[b.Base+int64(i)]
				}
			}
		}
		for id, n := range size {
			wanted := 0
			if ended[id] == api.Commit {
				wanted = n
				whole++
			}
			if got[id] != wanted {
				t.Errorf("%d of %d records of %s, which ended by %d", got[id], n, id, ended[id])
			}
		}
	}
	if whole < 40 {
		t.Errorf("only %d transactions were committed", whole)
	}
}

// Nil partitions, and ones that Open did not make.
func TestNil(t *testing.T) {
	var p *part.Part
	if at, again, err := p.Append(plain("a", 0)); at != 0 || again || err != api.ErrNil {
		t.Error("Append", at, again, err)
	}
	if at, again, err := p.Append(commit(1, 0)); at != 0 || again || err != api.ErrNil {
		t.Error("Append of a marker", at, again, err)
	}
	if at, again, err := p.Mark(1, 0, true, 0); at != 0 || again || err != api.ErrNil {
		t.Error("Mark", at, again, err)
	}
	if again, err := p.Ask(plain("a", 0)); again || err != api.ErrNil {
		t.Error("Ask", again, err)
	}
	for _, most := range []int{0, 1} {
		if l, next, err := p.Read(0, most, true); len(l) > 0 || next != 0 || err != api.ErrNil {
			t.Error("Read", l, next, err)
		}
	}
	if p.First() != 0 || p.Next() != 0 || p.Stable() != 0 || len(p.Batches()) > 0 {
		t.Error("First, Next, Stable or Batches")
	}
	want(t, "Snapshot", p.Snapshot(), api.ErrNil)
	if n, err := p.Expire(9); n != 0 || err != api.ErrNil {
		t.Error("Expire", n, err)
	}
	if n, err := p.Compact(9); n != 0 || err != api.ErrNil {
		t.Error("Compact", n, err)
	}
	zero := &part.Part{}
	zero.Append(plain("a", 0))
	zero.Mark(1, 0, true, 0)
	zero.Ask(commit(1, 0))
	zero.Read(0, 1, true)
	zero.Stable()
	zero.Batches()
	zero.Snapshot()
	zero.Expire(9)
	zero.Compact(9)
}
