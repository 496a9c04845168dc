package dedup_test

import (
	"fmt"
	"math"
	"math/rand"
	"slices"
	"testing"

	"towpath/api"
	"towpath/dedup"
	"towpath/rec"
)

// The chapter's example.
func TestExample(t *testing.T) {
	d := taken(t, 2, part(3, 0, 0, 2, 10))
	judged(t, d, "the same", part(3, 0, 0, 2, 10), dedup.Verdict{Again: true, Base: 10}, api.OK)
	judged(t, d, "Seq 3", part(3, 0, 3, 2, 12), dedup.Verdict{}, api.ErrOrder)
	judged(t, d, "Epoch 1", part(3, 1, 0, 2, 12), dedup.Verdict{}, api.ErrState)
	offsetsAre(t, "open", d, 10, 12)
	want(t, "the marker", d.Take(mark(3, 0, api.Commit, 12)), api.OK)
	offsetsAre(t, "behind the marker", d, 13, 13)
	judged(t, d, "Epoch 0", part(3, 0, 2, 2, 13), dedup.Verdict{}, api.ErrFenced)
	judged(t, d, "Epoch 1", part(3, 1, 0, 2, 13), dedup.Verdict{}, api.OK)
}

// judged holds Judge against what is wanted; Judge changes nothing.
func judged(t *testing.T, d *dedup.Table, what string, b api.Batch, v dedup.Verdict, err api.Errno) {
	t.Helper()
	before := seen(d)
	if got, e := d.Judge(b); got != v || e != err {
		t.Errorf("%s: Judge: %v, %d, not %v, %d", what, got, e, v, err)
	}
	if seen(d) != before {
		t.Errorf("%s: Judge changed the table", what)
	}
}

// P7.1: tables of as many rows as may be, and of more and less.
func TestNew(t *testing.T) {
	for _, most := range []int{1, 2, 4095, 4096} {
		d := made(t, most)
		rowsAre(t, "New", d.Rows())
		rowsAre(t, "New", d.Open())
		offsetsAre(t, "New", d, 0, 0)
	}
	for _, most := range []int{0, -1, 4097, math.MinInt, math.MaxInt} {
		if d, err := dedup.New(most); d != nil || err != api.ErrArg {
			t.Errorf("New(%d): %v, %d", most, d, err)
		}
	}
}

// P7.1, P7.2: a table is full with its last row, and not ahead of it; producers that it knows go on.
func TestFull(t *testing.T) {
	for _, most := range []int{1, 2, 4096} {
		d := made(t, most)
		for i := range most {
			want(t, "Take", d.Take(plain(int64(i)+1, 0, 0, 1, int64(i))), api.OK)
		}
		next, fresh := int64(most), int64(most)+1
		before := seen(d)
		for _, b := range []api.Batch{plain(fresh, 0, 0, 1, next), part(fresh, 7, 0, 1, next), mark(fresh, 0, api.Commit, next), mark(api.MaxPid, 0, api.Abort, next), part(fresh, 0, 0, 1, 0)} {
			judged(t, d, "full", b, dedup.Verdict{}, api.ErrFull)
			want(t, "Take of one more", d.Take(b), api.ErrFull)
		}
		judged(t, d, "full, and out of order", part(fresh, 0, 1, 1, next), dedup.Verdict{}, api.ErrOrder)
		if seen(d) != before {
			t.Error("what was refused changed the table")
		}
		want(t, "of nobody", d.Take(plain(0, 0, 0, 1, next)), api.OK)
		want(t, "of one that is known", d.Take(plain(int64(most), 0, 1, 1, next+1)), api.OK)
		want(t, "its marker", d.Take(mark(int64(most), 0, api.Abort, next+2)), api.OK)
		if len(d.Rows()) != most {
			t.Errorf("%d rows, not %d", len(d.Rows()), most)
		}
	}
}

// P7.2: the error of rec.Valid comes ahead of every rule, and nothing changes.
func TestInvalid(t *testing.T) {
	long := part(3, 0, 4, 65, 10)
	late := part(3, 0, 4, 2, 10)
	late.L[1].Time = -1
	wide := part(3, 0, 4, 1, 10)
	wide.L[0].Key = string(make([]byte, api.MaxText+1))
	for _, b := range []api.Batch{
		{}, batch(3, 0, 0, 4, 1, 10), batch(3, 0, 0, -1, 1, 10), plain(-1, 0, 0, 1, 10), plain(api.MaxPid+1, 0, 0, 1, 10),
		part(3, -1, 0, 1, 10), part(3, api.MaxEpoch+1, 0, 1, 10), part(3, 0, -1, 1, 10), part(3, 0, api.MaxSeq+1, 1, 10),
		part(3, 0, 4, 1, -1), part(3, 0, 4, 1, api.MaxOffset+1), at(part(3, 0, 4, 1, 10), -1), at(part(3, 0, 4, 1, 10), api.MaxTime+1),
		part(0, 0, 0, 1, 10), plain(0, 1, 0, 1, 10), plain(0, 0, 1, 1, 10), mark(0, 0, api.Abort, 10),
		batch(3, 0, 1, api.Commit, 0, 10), batch(3, 0, 0, api.Abort, 1, 10), part(3, 0, 4, 0, 10),
		long, late, wide, part(3, 0, 4, 2, api.MaxOffset), part(3, 0, api.MaxSeq, 2, 10), plain(9, 0, api.MaxSeq, 2, 0),
		part(3, math.MinInt, 0, 1, 10), part(3, math.MaxInt, math.MaxInt, 1, math.MaxInt64), mark(math.MinInt64, 0, api.Commit, math.MinInt64),
	} {
		err := rec.Valid(b)
		if err == api.OK {
			t.Fatalf("%v is valid", b)
		}
		d := taken(t, 1, part(3, 0, 0, 4, 2))
		judged(t, d, fmt.Sprint(b), b, dedup.Verdict{}, err)
		want(t, fmt.Sprint("Take of ", b), d.Take(b), err)
		same(t, "refused", d, taken(t, 1, part(3, 0, 0, 4, 2)))
	}
}

// P7.2: each rule of Judge by itself, at its edges, and ahead of each later one that applies too.
func TestJudge(t *testing.T) {
	ok, again, unknown := dedup.Verdict{}, dedup.Verdict{Again: true, Base: 13}, dedup.Verdict{Again: true, Base: -1}
	shut := []api.Batch{plain(3, 5, 0, 2, 10), plain(3, 5, 2, 3, 13)} // Epoch 5, the next number 5
	open := []api.Batch{part(3, 5, 0, 2, 10), part(3, 5, 2, 3, 13)}
	ended := []api.Batch{part(3, 5, 0, 2, 10), mark(3, 5, api.Commit, 12)} // Epoch 6, no batch of it
	last := []api.Batch{mark(3, api.MaxEpoch, api.Abort, 10)}
	for _, c := range []struct {
		what  string
		state []api.Batch
		b     api.Batch
		v     dedup.Verdict
		err   api.Errno
	}{
		{"of nobody", open, plain(0, 0, 0, 1, 20), ok, api.OK},

		{"1: an epoch below", shut, plain(3, 4, 5, 1, 20), ok, api.ErrFenced},
		{"1: epoch 0", shut, part(3, 0, 5, 1, 20), ok, api.ErrFenced},
		{"1 ahead of 2: the numbers of the last batch", shut, plain(3, 4, 2, 3, 20), ok, api.ErrFenced},
		{"1 ahead of 3: plain while one is open", open, plain(3, 4, 5, 1, 20), ok, api.ErrFenced},
		{"1 ahead of 4: out of order", shut, part(3, 4, 9, 1, 20), ok, api.ErrFenced},
		{"1 ahead of 3 and 4", open, plain(3, 4, 9, 1, 20), ok, api.ErrFenced},
		{"1: the marker of an epoch below", shut, mark(3, 4, api.Commit, 20), unknown, api.OK},
		{"1: an Abort of one, while one is open", open, mark(3, 0, api.Abort, 20), unknown, api.OK},
		{"1: an epoch that a marker ended", ended, part(3, 5, 2, 1, 20), ok, api.ErrFenced},
		{"1: the batch of the epoch that was ended", ended, part(3, 5, 0, 2, 20), ok, api.ErrFenced},
		{"1: the marker again", ended, mark(3, 5, api.Commit, 20), unknown, api.OK},
		{"1: the other marker", ended, mark(3, 5, api.Abort, 20), unknown, api.OK},
		{"1: the last epoch, behind its marker", last, plain(3, api.MaxEpoch, 0, 1, 20), ok, api.ErrFenced},
		{"1: the last epoch's marker again", last, mark(3, api.MaxEpoch, api.Commit, 20), unknown, api.OK},

		{"2: the last batch", shut, plain(3, 5, 2, 3, 20), again, api.OK},
		{"2: of another kind", shut, part(3, 5, 2, 3, 20), again, api.OK},
		{"2: the batch ahead of it", shut, plain(3, 5, 0, 2, 20), unknown, api.OK},
		{"2: the beginning of the last one", shut, plain(3, 5, 2, 2, 20), unknown, api.OK},
		{"2: the end of it", shut, plain(3, 5, 3, 2, 20), unknown, api.OK},
		{"2: its last record", shut, plain(3, 5, 4, 1, 20), unknown, api.OK},
		{"2: as many records, one earlier", shut, plain(3, 5, 1, 3, 20), unknown, api.OK},
		{"2: all", shut, plain(3, 5, 0, 5, 20), unknown, api.OK},
		{"2 ahead of 3: plain while one is open", open, plain(3, 5, 2, 3, 20), again, api.OK},
		{"2 ahead of 3: plain, and unknown", open, plain(3, 5, 0, 1, 20), unknown, api.OK},
		{"2, while one is open", open, part(3, 5, 2, 3, 20), again, api.OK},

		{"3: an epoch above", open, part(3, 6, 0, 1, 20), ok, api.ErrState},
		{"3: the last epoch", open, part(3, api.MaxEpoch, 0, 1, 20), ok, api.ErrState},
		{"3: a plain one of it", open, plain(3, 6, 0, 1, 20), ok, api.ErrState},
		{"3: a marker of it", open, mark(3, 6, api.Commit, 20), ok, api.ErrState},
		{"3: an Abort of it", open, mark(3, 6, api.Abort, 20), ok, api.ErrState},
		{"3: plain", open, plain(3, 5, 5, 1, 20), ok, api.ErrState},
		{"3 ahead of 4: an epoch above", open, part(3, 6, 5, 1, 20), ok, api.ErrState},
		{"3 ahead of 4: plain", open, plain(3, 5, 6, 1, 20), ok, api.ErrState},
		{"3 ahead of 4: plain, there in part", open, plain(3, 5, 4, 2, 20), ok, api.ErrState},

		{"4: one too far", shut, plain(3, 5, 6, 1, 20), ok, api.ErrOrder},
		{"4: there in part", shut, plain(3, 5, 4, 2, 20), ok, api.ErrOrder},
		{"4: there all but the last record", shut, plain(3, 5, 2, 4, 20), ok, api.ErrOrder},
		{"4: from 0 on, and more", shut, plain(3, 5, 0, 6, 20), ok, api.ErrOrder},
		{"4: while one is open", open, part(3, 5, 6, 1, 20), ok, api.ErrOrder},
		{"4: an epoch above goes on", shut, plain(3, 6, 5, 1, 20), ok, api.ErrOrder},
		{"4: an epoch above begins with 1", shut, plain(3, 6, 1, 1, 20), ok, api.ErrOrder},
		{"4: the last number", shut, plain(3, 5, api.MaxSeq, 1, 20), ok, api.ErrOrder},
		{"4: the first batch behind a marker", ended, part(3, 6, 2, 1, 20), ok, api.ErrOrder},
		{"4: of one that is not known", shut, plain(9, 0, 1, 1, 20), ok, api.ErrOrder},

		{"the next number", shut, plain(3, 5, 5, 1, 20), ok, api.OK},
		{"the next number, of a transaction", shut, part(3, 5, 5, 64, 20), ok, api.OK},
		{"the next number, while one is open", open, part(3, 5, 5, 1, 20), ok, api.OK},
		{"a marker", open, mark(3, 5, api.Commit, 20), ok, api.OK},
		{"an Abort", open, mark(3, 5, api.Abort, 20), ok, api.OK},
		{"a marker of nothing", shut, mark(3, 5, api.Commit, 20), ok, api.OK},
		{"a marker of an epoch above", shut, mark(3, 6, api.Abort, 20), ok, api.OK},
		{"an epoch above", shut, part(3, 6, 0, 1, 20), ok, api.OK},
		{"the last epoch", shut, plain(3, api.MaxEpoch, 0, 1, 20), ok, api.OK},
		{"the last epoch's marker", shut, mark(3, api.MaxEpoch, api.Commit, 20), ok, api.OK},
		{"behind a marker", ended, plain(3, 6, 0, 1, 20), ok, api.OK},
		{"behind a marker, one epoch later", ended, part(3, 7, 0, 1, 20), ok, api.OK},
		{"a marker behind a marker", ended, mark(3, 6, api.Commit, 20), ok, api.OK},
		{"of one that is not known", shut, part(9, 0, 0, 1, 20), ok, api.OK},
		{"of one that is not known, a later epoch", shut, plain(9, 8, 0, 1, 20), ok, api.OK},
		{"a marker of one that is not known", shut, mark(9, 8, api.Commit, 20), ok, api.OK},
		{"a Base that is below the next offset", shut, plain(3, 5, 5, 1, 0), ok, api.OK},
	} {
		d := taken(t, 2, c.state...)
		judged(t, d, c.what, c.b, c.v, c.err)
		wanted := c.err
		switch {
		case c.v.Again:
			wanted = api.ErrThere
		case c.err == api.OK && c.b.Base < d.Next():
			wanted = api.ErrRange
		}
		before := seen(d)
		want(t, c.what+": Take", d.Take(c.b), wanted)
		if wanted == api.OK == (seen(d) == before) {
			t.Errorf("%s: Take: %d, and the table was %s, is %s", c.what, wanted, before, seen(d))
		}
	}
}

// P7.2: sequence numbers up to the last one.
func TestLastNumber(t *testing.T) {
	rows := []dedup.Row{{Pid: 3, Seq: api.MaxSeq - 2, Count: 2, Base: 0, From: -1}}
	d := loaded(t, "near the last number", 2, sealed(body(2, rows...)))
	judged(t, d, "the last number", plain(3, 0, api.MaxSeq, 1, 2), dedup.Verdict{}, api.OK)
	judged(t, d, "beyond it", plain(3, 0, api.MaxSeq, 2, 2), dedup.Verdict{}, api.ErrExhausted)
	want(t, "the last number", d.Take(plain(3, 0, api.MaxSeq, 1, 2)), api.OK)
	rowsAre(t, "the last number", d.Rows(), dedup.Row{Pid: 3, Seq: api.MaxSeq, Count: 1, Base: 2, From: -1})
	judged(t, d, "again", plain(3, 0, api.MaxSeq, 1, 3), dedup.Verdict{Again: true, Base: 2}, api.OK)
	judged(t, d, "the one ahead", plain(3, 0, api.MaxSeq-2, 2, 3), dedup.Verdict{Again: true, Base: -1}, api.OK)
	judged(t, d, "from 0 on", plain(3, 1, 0, 1, 3), dedup.Verdict{}, api.OK)
}

// P7.3: what Take makes of a row, batch by batch.
func TestTake(t *testing.T) {
	d := made(t, 3)
	for _, c := range []struct {
		what         string
		b            api.Batch
		stable, next int64
		rows         []dedup.Row
	}{
		{"of nobody", at(plain(0, 0, 0, 2, 0), 99), 2, 2, nil},
		{"behind a gap", plain(0, 0, 0, 1, 5), 6, 6, nil},
		{"a plain one", at(plain(3, 2, 0, 2, 6), 7), 8, 8, []dedup.Row{{3, 2, 0, 2, 6, -1, 7}}},
		{"an earlier time", at(plain(3, 2, 2, 1, 8), 4), 9, 9, []dedup.Row{{3, 2, 2, 1, 8, -1, 7}}},
		{"of a transaction", at(part(3, 2, 3, 4, 10), 8), 10, 14, []dedup.Row{{3, 2, 3, 4, 10, 10, 8}}},
		{"goes on", at(part(3, 2, 7, 1, 14), 9), 10, 15, []dedup.Row{{3, 2, 7, 1, 14, 10, 9}}},
		{"a second producer", part(1, 0, 0, 1, 15), 10, 16, []dedup.Row{{1, 0, 0, 1, 15, 15, 0}, {3, 2, 7, 1, 14, 10, 9}}},
		{"of nobody, while two are open", plain(0, 0, 0, 1, 16), 10, 17, []dedup.Row{{1, 0, 0, 1, 15, 15, 0}, {3, 2, 7, 1, 14, 10, 9}}},
		{"Commit", at(mark(3, 2, api.Commit, 17), 5), 15, 18, []dedup.Row{{1, 0, 0, 1, 15, 15, 0}, {3, 3, 0, 0, 0, -1, 9}}},
		{"Abort", at(mark(1, 0, api.Abort, 18), 30), 19, 19, []dedup.Row{{1, 1, 0, 0, 0, -1, 30}, {3, 3, 0, 0, 0, -1, 9}}},
		{"Commit of nothing", mark(3, 5, api.Commit, 19), 20, 20, []dedup.Row{{1, 1, 0, 0, 0, -1, 30}, {3, 6, 0, 0, 0, -1, 9}}},
		{"a marker without a row", at(mark(2, 4, api.Abort, 20), 6), 21, 21, []dedup.Row{{1, 1, 0, 0, 0, -1, 30}, {2, 5, 0, 0, 0, -1, 6}, {3, 6, 0, 0, 0, -1, 9}}},
		{"a new epoch", part(1, 9, 0, 1, 21), 21, 22, []dedup.Row{{1, 9, 0, 1, 21, 21, 30}, {2, 5, 0, 0, 0, -1, 6}, {3, 6, 0, 0, 0, -1, 9}}},
		{"a new epoch, plain", plain(3, 7, 0, 1, 22), 21, 23, []dedup.Row{{1, 9, 0, 1, 21, 21, 30}, {2, 5, 0, 0, 0, -1, 6}, {3, 7, 0, 1, 22, -1, 9}}},
		{"a new epoch behind a plain one", plain(3, 8, 0, 3, 23), 21, 26, []dedup.Row{{1, 9, 0, 1, 21, 21, 30}, {2, 5, 0, 0, 0, -1, 6}, {3, 8, 0, 3, 23, -1, 9}}},
		{"the last epoch's marker", mark(2, api.MaxEpoch, api.Commit, 26), 21, 27, []dedup.Row{{1, 9, 0, 1, 21, 21, 30}, {2, api.MaxEpoch + 1, 0, 0, 0, -1, 6}, {3, 8, 0, 3, 23, -1, 9}}},
	} {
		want(t, c.what, d.Take(c.b), api.OK)
		rowsAre(t, c.what, d.Rows(), c.rows...)
		offsetsAre(t, c.what, d, c.stable, c.next)
	}
}

// P7.3: a Base below, at and above the next offset, for each kind of batch, behind the other errors.
func TestTakeBase(t *testing.T) {
	state := []api.Batch{part(3, 1, 0, 2, 10)}
	for _, make := range []func(base int64) api.Batch{
		func(base int64) api.Batch { return plain(0, 0, 0, 1, base) },
		func(base int64) api.Batch { return part(3, 1, 2, 1, base) },
		func(base int64) api.Batch { return mark(3, 1, api.Commit, base) },
		func(base int64) api.Batch { return plain(5, 0, 0, 1, base) },
	} {
		for base, err := range map[int64]api.Errno{0: api.ErrRange, 10: api.ErrRange, 11: api.ErrRange, 12: api.OK, 13: api.OK, api.MaxOffset: api.OK} {
			d := taken(t, 2, state...)
			want(t, fmt.Sprint(make(base)), d.Take(make(base)), err)
			if err != api.OK {
				same(t, "refused", d, taken(t, 2, state...))
			} else if d.Next() != base+1 {
				t.Errorf("Next %d behind %d", d.Next(), base)
			}
		}
	}
	d := taken(t, 1, state...)
	want(t, "there already, ahead of its Base", d.Take(part(3, 1, 0, 2, 0)), api.ErrThere)
	want(t, "a marker there already, ahead of its Base", d.Take(mark(3, 0, api.Abort, 0)), api.ErrThere)
	want(t, "fenced, ahead of its Base", d.Take(part(3, 0, 0, 2, 0)), api.ErrFenced)
	want(t, "state, ahead of its Base", d.Take(part(3, 2, 0, 2, 0)), api.ErrState)
	want(t, "order, ahead of its Base", d.Take(part(3, 1, 3, 2, 0)), api.ErrOrder)
	want(t, "full, ahead of its Base", d.Take(part(4, 1, 0, 2, 0)), api.ErrFull)
	same(t, "refused", d, taken(t, 1, state...))
}

// P7.3: behind the last offset nothing more is accepted.
func TestLastOffset(t *testing.T) {
	d := taken(t, 2, part(3, 0, 0, 2, api.MaxOffset-1))
	offsetsAre(t, "the last offset", d, api.MaxOffset-1, api.MaxOffset+1)
	want(t, "a marker", d.Take(mark(3, 0, api.Commit, api.MaxOffset)), api.ErrRange)
	want(t, "of nobody", d.Take(plain(0, 0, 0, 1, api.MaxOffset)), api.ErrRange)
	want(t, "beyond it", d.Take(plain(0, 0, 0, 1, api.MaxOffset+1)), api.ErrArg)
	same(t, "Load", loaded(t, "the last offset", 2, d.Bytes()), d)
	d = taken(t, 2, mark(3, 0, api.Commit, api.MaxOffset))
	offsetsAre(t, "the last offset", d, api.MaxOffset+1, api.MaxOffset+1)
}

// P7.4: times at, below and above those of rows; an open transaction keeps its row.
func TestExpire(t *testing.T) {
	state := []api.Batch{
		at(plain(9, 0, 0, 1, 0), 5), at(part(2, 0, 0, 1, 1), 5), at(plain(7, 0, 0, 1, 2), 6), at(mark(4, 0, api.Commit, 3), 5),
		at(part(1, 0, 0, 1, 4), 2), at(mark(1, 0, api.Abort, 5), 0), at(plain(8, 0, 0, 1, 6), 0), at(part(5, 0, 0, 1, 7), 0),
		at(plain(6, 0, 0, 1, 8), api.MaxTime),
	}
	for _, c := range []struct {
		time int64
		gone []int64
	}{
		{math.MinInt64, nil}, {-1, nil}, {0, nil}, {1, []int64{8}}, {2, []int64{8}}, {3, []int64{1, 8}}, {5, []int64{1, 8}}, {6, []int64{1, 4, 8, 9}},
		{7, []int64{1, 4, 7, 8, 9}}, {api.MaxTime, []int64{1, 4, 7, 8, 9}}, {api.MaxTime + 1, []int64{1, 4, 6, 7, 8, 9}}, {math.MaxInt64, []int64{1, 4, 6, 7, 8, 9}},
	} {
		d := taken(t, 9, state...)
		all := d.Rows()
		if got := d.Expire(c.time); !slices.Equal(got, c.gone) {
			t.Errorf("Expire(%d): %v, not %v", c.time, got, c.gone)
		}
		rowsAre(t, fmt.Sprintf("behind Expire(%d)", c.time), d.Rows(), slices.DeleteFunc(all, func(r dedup.Row) bool { return slices.Contains(c.gone, r.Pid) })...)
		offsetsAre(t, fmt.Sprintf("behind Expire(%d)", c.time), d, 1, 9)
		if got := d.Expire(c.time); len(got) != 0 {
			t.Errorf("Expire(%d) again: %v", c.time, got)
		}
	}
}

// P7.4: who has expired is not known any more, and leaves room for another one.
func TestExpired(t *testing.T) {
	d := taken(t, 1, at(mark(3, 7, api.Commit, 0), 4))
	want(t, "full", d.Take(plain(4, 0, 0, 1, 1)), api.ErrFull)
	d.Expire(5)
	if r, ok := d.Row(3); ok || r != (dedup.Row{}) {
		t.Error("Row", r, ok)
	}
	want(t, "an early epoch", d.Take(at(plain(3, 0, 0, 1, 1), 2)), api.OK)
	rowsAre(t, "known anew", d.Rows(), dedup.Row{3, 0, 0, 1, 1, -1, 2})
	d.Expire(3)
	want(t, "another one", d.Take(plain(4, 0, 0, 1, 2)), api.OK)
}

// P7.4: rows by producers, open ones by their beginning; Stable is the least of these.
func TestOrder(t *testing.T) {
	var l []api.Batch
	pids := []int64{40, 3, 1000, 7, api.MaxPid, 1, 12, 500, 2, 88}
	for i, pid := range pids {
		l = append(l, part(pid, 0, 0, 1, int64(i)))
	}
	d := taken(t, 20, l...)
	var rows, open []dedup.Row
	for i, pid := range pids {
		open = append(open, dedup.Row{Pid: pid, Count: 1, Base: int64(i), From: int64(i)})
	}
	rows = slices.SortedFunc(slices.Values(open), func(a, b dedup.Row) int { return int(a.Pid - b.Pid) })
	rowsAre(t, "Rows", d.Rows(), rows...)
	rowsAre(t, "Open", d.Open(), open...)
	offsetsAre(t, "all open", d, 0, 10)
	for i, end := range []int{4, 0, 1, 9, 2, 3, 5, 7, 6, 8} {
		want(t, "Commit", d.Take(mark(pids[end], 0, api.Commit, 10+int64(i))), api.OK)
		open = slices.DeleteFunc(open, func(r dedup.Row) bool { return r.Pid == pids[end] })
		rowsAre(t, "Open", d.Open(), open...)
		stable := 11 + int64(i)
		if len(open) > 0 {
			stable = open[0].From
		}
		offsetsAre(t, "one less", d, stable, 11+int64(i))
	}
	if len(d.Rows()) != 10 {
		t.Error("Rows", d.Rows())
	}
}

// P7.2 to P7.5, P7.9: calls at random, against a model that keeps every batch; now and then the table is a copy, or loaded from its bytes.
func TestModel(t *testing.T) {
	rnd := rand.New(rand.NewSource(7))
	for range 400 {
		most := 1 + rnd.Intn(6)
		d, m := made(t, most), &model{most: most}
		for range 80 {
			b := someBatch(rnd, m)
			v, err := m.judge(b)
			judged(t, d, fmt.Sprint(b), b, v, err)
			want(t, fmt.Sprint("Take of ", b), d.Take(b), m.take(b))
			switch rnd.Intn(20) {
			case 0:
				time := int64(rnd.Intn(35)) - 2
				if got, want := d.Expire(time), m.expire(time); !slices.Equal(got, want) {
					t.Errorf("Expire(%d): %v, not %v", time, got, want)
				}
			case 1:
				d = loaded(t, "in between", most, d.Bytes())
			case 2:
				d = d.Copy()
			}
			agree(t, d, m)
			if t.Failed() {
				return
			}
		}
	}
}

// arrivals are batches of some producers, each of them sent more than once, late and out of order.
func arrivals(rnd *rand.Rand) []api.Batch {
	var l []api.Batch
	for pid := range int64(3) {
		for epoch := range 4 {
			seq := 0
			for range rnd.Intn(5) {
				n := 1 + rnd.Intn(3)
				l = append(l, batch(pid+1, epoch, seq, rnd.Intn(2), n, 0))
				seq += n
			}
			if rnd.Intn(3) > 0 {
				l = append(l, mark(pid+1, epoch, api.Commit+rnd.Intn(2), 0))
			}
		}
	}
	for i := range l { // near enough to their places for most of them to be taken
		if j := i + rnd.Intn(4); j < len(l) {
			l[i], l[j] = l[j], l[i]
		}
	}
	var all []api.Batch
	for i, b := range l {
		all = append(all, b)
		for range rnd.Intn(3) {
			all = append(all, l[rnd.Intn(i+1)])
		}
		if rnd.Intn(4) == 0 {
			all = append(all, l[rnd.Intn(len(l))])
		}
	}
	return append(all, l...)
}

// P7.6 to P7.8: whatever arrives, each record of an epoch is accepted once and in order, nothing comes behind a later epoch or the end of its own, and a marker alone ends a transaction.
func TestConsequences(t *testing.T) {
	rnd := rand.New(rand.NewSource(8))
	accepted, refused := 0, 0
	for range 300 {
		d := made(t, 3)
		nextSeq := map[[2]int64]int{}
		least := map[int64]int{} // the least epoch of which something may come
		for _, b := range arrivals(rnd) {
			b.Base = d.Next()
			stable, before := d.Stable(), d.Open()
			if d.Take(b) != api.OK {
				refused++
				continue
			}
			accepted++
			id := [2]int64{b.Pid, int64(b.Epoch)}
			if b.Epoch < least[b.Pid] || !isMarker(b) && b.Seq != nextSeq[id] {
				t.Errorf("accepted: %v; the least epoch is %d, the next number %d", b, least[b.Pid], nextSeq[id])
			}
			nextSeq[id] += len(b.L)
			least[b.Pid] = b.Epoch
			if isMarker(b) {
				least[b.Pid]++
			}
			for _, r := range before {
				ended := isMarker(b) && b.Pid == r.Pid
				if now, _ := d.Row(r.Pid); (now.From == -1) != ended || !ended && now.From != r.From {
					t.Errorf("%v became %v by %v", r, now, b)
				}
			}
			if d.Stable() < stable || d.Stable() > d.Next() {
				t.Errorf("Stable was %d, is %d; Next is %d", stable, d.Stable(), d.Next())
			}
		}
	}
	if accepted < 3000 || refused < 3000 {
		t.Errorf("%d accepted, %d refused", accepted, refused)
	}
}

// P7.6: what a producer sends until it is acknowledged is there in the end, whole, whatever is lost, comes twice or overtakes.
func TestDelivered(t *testing.T) {
	rnd := rand.New(rand.NewSource(9))
	for range 100 {
		d := made(t, 1)
		var log, way []api.Batch
		for seq := 0; seq < 40; {
			b := plain(1, 0, seq, 1+rnd.Intn(3), 0)
			for sent := false; !sent; {
				way = append(way, b)
				arrives := way[rnd.Intn(len(way))]
				arrives.Base = d.Next()
				v, err := d.Judge(arrives)
				if err == api.OK && !v.Again && d.Take(arrives) == api.OK {
					log = append(log, arrives)
				}
				sent = arrives.Seq == b.Seq && err == api.OK
			}
			seq += len(b.L)
		}
		seq := 0
		for _, b := range log {
			if b.Seq != seq {
				t.Fatalf("%d behind %d", b.Seq, seq)
			}
			seq += len(b.L)
		}
	}
}

// P7.4: a copy and what it was copied from go on apart; results are memory of their own.
func TestCopies(t *testing.T) {
	state := []api.Batch{part(3, 0, 0, 1, 0), plain(5, 1, 0, 2, 1)}
	d := taken(t, 3, state...)
	c := d.Copy()
	same(t, "Copy", c, d)
	want(t, "Take by the copy", c.Take(mark(3, 0, api.Commit, 3)), api.OK)
	want(t, "Take by the copy", c.Take(part(7, 0, 0, 1, 4)), api.OK)
	want(t, "the limit of the copy", c.Take(part(8, 0, 0, 1, 5)), api.ErrFull)
	same(t, "the first one", d, taken(t, 3, state...))
	c = d.Copy()
	d.Expire(api.MaxTime)
	want(t, "Take by the first one", d.Take(part(3, 0, 1, 1, 3)), api.OK)
	same(t, "the copy", c, taken(t, 3, state...))

	rows, open, b := c.Rows(), c.Open(), c.Bytes()
	rows[0].From, open[0].Pid = 9, 9
	_ = append(rows[:1], dedup.Row{Pid: 8})
	clear(b)
	same(t, "results that were written to", c, taken(t, 3, state...))
	kept := c.Rows()
	c.Take(mark(3, 0, api.Commit, 3))
	rowsAre(t, "a result from before", kept, taken(t, 3, state...).Rows()...)
	given := part(3, 1, 0, 1, 4)
	want(t, "Take", c.Take(given), api.OK)
	before := seen(c)
	given.L[0].Key = "other"
	if seen(c) != before {
		t.Error("a batch that was written to changed the table")
	}
}

// A nil table, and the zero one, which is no more than safe.
func TestNil(t *testing.T) {
	var d *dedup.Table
	for _, b := range []api.Batch{{}, part(3, 0, 0, 1, 0), plain(0, 0, 0, 1, 0), mark(3, 0, api.Commit, 0)} {
		if v, err := d.Judge(b); v != (dedup.Verdict{}) || err != api.ErrNil {
			t.Error("Judge", v, err)
		}
		want(t, "Take", d.Take(b), api.ErrNil)
	}
	if r, ok := d.Row(3); ok || r != (dedup.Row{}) {
		t.Error("Row", r, ok)
	}
	if len(d.Expire(9)) != 0 || len(d.Rows()) != 0 || len(d.Open()) != 0 || len(d.Bytes()) != 0 {
		t.Error("Expire, Rows, Open, Bytes", seen(d))
	}
	offsetsAre(t, "nil", d, 0, 0)
	if d.Copy() != nil {
		t.Error("Copy of nil")
	}
	var zero dedup.Table
	zero.Judge(part(3, 0, 0, 1, 0))
	zero.Take(part(3, 0, 0, 1, 0))
	zero.Take(plain(0, 0, 0, 1, 0))
	zero.Expire(5)
	zero.Row(3)
	zero.Copy().Take(mark(3, 0, api.Abort, 9))
	seen(&zero)
}
