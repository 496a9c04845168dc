package iso_test

import (
	"fmt"
	"math"
	"math/rand"
	"slices"
	"testing"

	"towpath/api"
	"towpath/iso"
	"towpath/rec"
)

// The chapter's example.
func TestExample(t *testing.T) {
	l := []api.Batch{part(3, 0, 1, 0), plain(1, 1), part(4, 0, 1, 2), commit(3, 0, 3)}
	v := taken(t, l...)
	offsetsAre(t, "behind the Commit", v, 2, 4)
	picksAre(t, "behind the Commit", v, l, 0, 1)
	l = append(l, abort(4, 0, 4))
	take(t, v, l[4])
	offsetsAre(t, "behind the Abort", v, 5, 5)
	picksAre(t, "behind the Abort", v, l, 0, 1)
	txnsAre(t, "Fallen", v.Fallen(), iso.Txn{Pid: 4, Epoch: 0, First: 2, Last: 4})
	may(t, "a further Part", v, part(4, 0, 1, 5), api.ErrFenced)
	if n := v.Forget(5); n != 1 {
		t.Errorf("Forget(5): %d", n)
	}
}

// picksAre holds the offsets that Pick returns against those wanted, and the records against those that were given.
func picksAre(t *testing.T, what string, v *iso.View, l []api.Batch, offsets ...int64) {
	t.Helper()
	var got []int64
	all := rec.Flat(l...)
	for _, r := range v.Pick(l...) {
		got = append(got, r.Offset)
		if !slices.Contains(all, r) {
			t.Errorf("%s: Pick: %v is none of the records", what, r)
		}
	}
	if !slices.Equal(got, offsets) {
		t.Errorf("%s: Pick: %v, not %v", what, got, offsets)
	}
}

// P8.1: a view that has accepted nothing; each one is another one.
func TestNew(t *testing.T) {
	v := iso.New()
	txnsAre(t, "Open", v.Open())
	txnsAre(t, "Fallen", v.Fallen())
	offsetsAre(t, "New", v, 0, 0)
	take(t, v, part(3, 0, 1, 0))
	offsetsAre(t, "another New", iso.New(), 0, 0)
}

// P8.1: the error of rec.Valid comes ahead of all others, and nothing changes.
func TestInvalid(t *testing.T) {
	late := part(3, 0, 2, 10)
	late.Time = -1
	wide := part(3, 0, 1, 10)
	wide.L[0].Value = string(make([]byte, api.MaxText+1))
	numbered := commit(3, 0, 10)
	numbered.Seq = 1
	full := part(3, 0, 2, 10)
	full.Seq = api.MaxSeq
	for _, b := range []api.Batch{
		{}, batch(3, 0, 4, 1, 10), batch(3, 0, -1, 1, 10), part(-1, 0, 1, 10), part(api.MaxPid+1, 0, 1, 10), part(3, -1, 1, 10), part(3, api.MaxEpoch+1, 1, 10),
		part(3, 0, 1, -1), part(3, 0, 1, api.MaxOffset+1), part(0, 0, 1, 10), commit(0, 0, 10), batch(0, 1, api.Plain, 1, 10),
		part(3, 0, 0, 10), part(3, 0, 65, 10), batch(3, 0, api.Abort, 1, 10), part(3, 0, 2, api.MaxOffset), late, wide, numbered, full,
		part(5, 0, 65, 0), part(5, 1, 65, 0), part(math.MinInt64, math.MaxInt, 1, math.MaxInt64),
	} {
		err := rec.Valid(b)
		if err == api.OK {
			t.Fatalf("%v is valid", b)
		}
		may(t, fmt.Sprint(b), taken(t, part(3, 0, 1, 0), part(5, 0, 1, 1), abort(5, 0, 2)), b, err)
	}
}

// P8.1: each error by itself, and ahead of each later one; what is accepted in its stead.
func TestTakeErrors(t *testing.T) {
	// 3 has the epoch 5 open; of 4 the epoch 5 was aborted, and 6 is open; of 6 the epoch 1 was committed; of 7 the epoch 2 was aborted
	state := []api.Batch{part(3, 5, 2, 0), part(4, 5, 1, 2), abort(4, 5, 3), part(4, 6, 1, 4), part(6, 1, 1, 5), commit(6, 1, 6), part(7, 2, 1, 7), abort(7, 2, 8)}
	for _, c := range []struct {
		what string
		b    api.Batch
		err  api.Errno
	}{
		{"below the next offset", plain(1, 8), api.ErrRange},
		{"at 0", plain(20, 0), api.ErrRange},
		{"a Part below it", part(3, 5, 1, 8), api.ErrRange},
		{"a marker below it", commit(3, 5, 0), api.ErrRange},
		{"range ahead of fenced", part(7, 2, 1, 8), api.ErrRange},
		{"range ahead of state", abort(3, 4, 8), api.ErrRange},
		{"at the next offset", plain(1, 9), api.OK},
		{"behind a gap", plain(1, 10), api.OK},
		{"at the last offset", plain(1, api.MaxOffset), api.OK},

		{"a Part of one that fell", part(7, 2, 1, 9), api.ErrFenced},
		{"its Abort again", abort(7, 2, 9), api.ErrFenced},
		{"its Commit", commit(7, 2, 9), api.ErrFenced},
		{"fenced ahead of state: a Part", part(4, 5, 1, 9), api.ErrFenced},
		{"fenced ahead of state: an Abort", abort(4, 5, 9), api.ErrFenced},
		{"fenced ahead of state: a Commit", commit(4, 5, 9), api.ErrFenced},
		{"plain, of one that fell", batch(7, 2, api.Plain, 1, 9), api.OK},
		{"another epoch of it", part(7, 1, 1, 9), api.OK},
		{"a later epoch of it", part(7, 3, 1, 9), api.OK},
		{"another producer with that epoch", part(8, 2, 1, 9), api.OK},

		{"a Part of an earlier epoch", part(3, 4, 1, 9), api.ErrState},
		{"a Part of a later epoch", part(3, 6, 1, 9), api.ErrState},
		{"a Commit of an earlier epoch", commit(3, 4, 9), api.ErrState},
		{"a Commit of a later epoch", commit(3, 6, 9), api.ErrState},
		{"an Abort of a later epoch", abort(3, api.MaxEpoch, 9), api.ErrState},
		{"plain, of an earlier epoch", batch(3, 4, api.Plain, 1, 9), api.OK},
		{"plain, of a later epoch", batch(3, 6, api.Plain, 1, 9), api.OK},
		{"plain, of its epoch", batch(3, 5, api.Plain, 1, 9), api.OK},

		{"goes on", part(3, 5, 1, 9), api.OK},
		{"its Commit", commit(3, 5, 9), api.OK},
		{"its Abort", abort(3, 5, 9), api.OK},
		{"opened again behind a Commit", part(6, 1, 1, 9), api.OK},
		{"a Commit of nothing", commit(6, 1, 9), api.OK},
		{"an Abort of nothing", abort(6, 1, 9), api.OK},
		{"an Abort of one that is not known", abort(9, 0, 9), api.OK},
		{"the last producer and epoch", part(api.MaxPid, api.MaxEpoch, 1, 9), api.OK},
	} {
		may(t, c.what, taken(t, state...), c.b, c.err)
	}
}

// P8.1, P8.3: what Take makes of a view, batch by batch.
func TestTake(t *testing.T) {
	v := iso.New()
	for _, c := range []struct {
		what         string
		b            api.Batch
		stable, next int64
		open, fallen []iso.Txn
	}{
		{"a plain one", plain(2, 0), 2, 2, nil, nil},
		{"behind a gap", plain(1, 5), 6, 6, nil, nil},
		{"plain, of a producer", batch(3, 1, api.Plain, 1, 6), 7, 7, nil, nil},
		{"a Part", part(3, 1, 3, 8), 8, 11, []iso.Txn{{3, 1, 8, -1}}, nil},
		{"goes on", part(3, 1, 1, 11), 8, 12, []iso.Txn{{3, 1, 8, -1}}, nil},
		{"another", part(1, 0, 1, 12), 8, 13, []iso.Txn{{3, 1, 8, -1}, {1, 0, 12, -1}}, nil},
		{"plain", plain(1, 13), 8, 14, []iso.Txn{{3, 1, 8, -1}, {1, 0, 12, -1}}, nil},
		{"Commit", commit(3, 1, 14), 12, 15, []iso.Txn{{1, 0, 12, -1}}, nil},
		{"opened again", part(3, 1, 1, 15), 12, 16, []iso.Txn{{1, 0, 12, -1}, {3, 1, 15, -1}}, nil},
		{"Abort", abort(3, 1, 16), 12, 17, []iso.Txn{{1, 0, 12, -1}}, []iso.Txn{{3, 1, 15, 16}}},
		{"an Abort of nothing", abort(3, 2, 17), 12, 18, []iso.Txn{{1, 0, 12, -1}}, []iso.Txn{{3, 1, 15, 16}}},
		{"a Commit of nothing", commit(3, 2, 18), 12, 19, []iso.Txn{{1, 0, 12, -1}}, []iso.Txn{{3, 1, 15, 16}}},
		{"a Part behind an Abort of nothing", part(3, 2, 1, 19), 12, 20, []iso.Txn{{1, 0, 12, -1}, {3, 2, 19, -1}}, []iso.Txn{{3, 1, 15, 16}}},
		{"Abort of the first", abort(1, 0, 21), 19, 22, []iso.Txn{{3, 2, 19, -1}}, []iso.Txn{{3, 1, 15, 16}, {1, 0, 12, 21}}},
		{"Abort of the last", abort(3, 2, 22), 23, 23, nil, []iso.Txn{{3, 1, 15, 16}, {1, 0, 12, 21}, {3, 2, 19, 22}}},
		{"a Part at the end", part(3, 3, 1, api.MaxOffset-1), api.MaxOffset - 1, api.MaxOffset, []iso.Txn{{3, 3, api.MaxOffset - 1, -1}}, []iso.Txn{{3, 1, 15, 16}, {1, 0, 12, 21}, {3, 2, 19, 22}}},
		{"Commit at the last offset", commit(3, 3, api.MaxOffset), api.MaxOffset + 1, api.MaxOffset + 1, nil, []iso.Txn{{3, 1, 15, 16}, {1, 0, 12, 21}, {3, 2, 19, 22}}},
	} {
		may(t, c.what, v, c.b, api.OK)
		txnsAre(t, c.what+": Open", v.Open(), c.open...)
		txnsAre(t, c.what+": Fallen", v.Fallen(), c.fallen...)
		offsetsAre(t, c.what, v, c.stable, c.next)
	}
	may(t, "behind the last offset", v, plain(1, api.MaxOffset), api.ErrRange)
	may(t, "beyond the last offset", v, plain(1, api.MaxOffset+1), api.ErrArg)
	same(t, "Load", loaded(t, "the last offset", v.Bytes()), v)
}

// P8.1: 1024 open transactions, and one more.
func TestFullOpen(t *testing.T) {
	v := iso.New()
	for i := range int64(1024) {
		take(t, v, part(i+1, int(i%7), 1, i))
	}
	may(t, "one more", v, part(1025, 0, 1, 1024), api.ErrFull)
	may(t, "range ahead of full", v, part(1025, 0, 1, 1023), api.ErrRange)
	may(t, "state ahead of full", v, part(2, 0, 1, 1024), api.ErrState)
	if len(v.Open()) != 1024 || v.Stable() != 0 {
		t.Errorf("%d open, Stable %d", len(v.Open()), v.Stable())
	}
	same(t, "Load", loaded(t, "1024 open", v.Bytes()), v)
	may(t, "one that is open", v, part(2, 1, 1, 1024), api.OK)
	may(t, "a plain one", v, plain(1, 1025), api.OK)
	may(t, "a marker of none", v, abort(2000, 0, 1026), api.OK)
	may(t, "an Abort", v, abort(2, 1, 1027), api.OK)
	may(t, "fenced", v, part(2, 1, 1, 1028), api.ErrFenced)
	may(t, "room for one", v, part(1025, 0, 1, 1028), api.OK)
	may(t, "fenced ahead of full", v, part(2, 1, 1, 1029), api.ErrFenced)
	may(t, "full again", v, part(2, 2, 1, 1029), api.ErrFull)
	may(t, "a Commit", v, commit(1, 0, 1029), api.OK)
	may(t, "room for one again", v, part(2, 2, 1, 1030), api.OK)
}

// P8.1: 4096 aborted transactions, and one more.
func TestFullFallen(t *testing.T) {
	v := iso.New()
	for i := range int64(4096) {
		take(t, v, part(i%8+1, int(i/8), 1, 2*i), abort(i%8+1, int(i/8), 2*i+1))
	}
	if len(v.Fallen()) != 4096 {
		t.Errorf("%d aborted", len(v.Fallen()))
	}
	same(t, "Load", loaded(t, "4096 aborted", v.Bytes()), v)
	may(t, "one more opens", v, part(1, 1000, 1, 8192), api.OK)
	may(t, "its Abort", v, abort(1, 1000, 8193), api.ErrFull)
	may(t, "range ahead of full", v, abort(1, 1000, 8192), api.ErrRange)
	may(t, "state ahead of full", v, abort(1, 1001, 8193), api.ErrState)
	may(t, "fenced ahead of full", v, abort(2, 0, 8193), api.ErrFenced)
	may(t, "an Abort of nothing", v, abort(2, 1000, 8193), api.OK)
	may(t, "its Commit", v, commit(1, 1000, 8194), api.OK)
	may(t, "another opens", v, part(1, 1000, 1, 8195), api.OK)
	may(t, "its Abort", v, abort(1, 1000, 8196), api.ErrFull)
	if n := v.Forget(2); n != 1 {
		t.Errorf("Forget(2): %d", n)
	}
	may(t, "room for one", v, abort(1, 1000, 8196), api.OK)
	may(t, "another opens", v, part(1, 0, 1, 8197), api.OK)
	may(t, "full again", v, abort(1, 0, 8198), api.ErrFull)
}

// P8.2: fates below, at and above the stable offset; of each kind; of transactions that were opened again behind a Commit; of batches that were never accepted.
func TestFate(t *testing.T) {
	// {3, 0}: committed 0..2; opened again at 4, aborted at 6. {4, 1}: aborted at 7. {5, 0}: open from 8 on.
	v := taken(t, part(3, 0, 1, 0), plain(1, 1), part(4, 1, 1, 2), commit(3, 0, 3), part(3, 0, 1, 4), part(4, 1, 1, 5), abort(3, 0, 6), abort(4, 1, 7), part(5, 0, 1, 8), plain(1, 9), commit(9, 0, 10))
	offsetsAre(t, "Fate", v, 8, 11)
	odd := batch(4, 1, 7, 1, 5) // a Kind that there is not
	for _, c := range []struct {
		what string
		b    api.Batch
		fate int
	}{
		{"committed", part(3, 0, 1, 0), iso.Stands},
		{"plain", plain(1, 1), iso.Stands},
		{"aborted, its first batch", part(4, 1, 1, 2), iso.Falls},
		{"aborted, a later batch", part(4, 1, 1, 5), iso.Falls},
		{"opened again and aborted", part(3, 0, 1, 4), iso.Falls},
		{"one ahead of that", part(3, 0, 1, 3), iso.Stands},
		{"a Commit", commit(3, 0, 3), iso.Sign},
		{"an Abort", abort(3, 0, 6), iso.Sign},
		{"a marker above the stable offset", commit(9, 0, 10), iso.Sign},
		{"a marker at the stable offset", abort(5, 0, 8), iso.Sign},
		{"open", part(5, 0, 1, 8), iso.Later},
		{"plain, behind it", plain(1, 9), iso.Later},

		{"never accepted: plain, just below the stable offset", plain(1, 7), iso.Stands},
		{"plain, at it", plain(1, 8), iso.Later},
		{"plain, with records beyond it", plain(9, 7), iso.Stands},
		{"plain, far behind", plain(1, api.MaxOffset), iso.Later},
		{"plain, of the identity of one that fell", batch(4, 1, api.Plain, 1, 5), iso.Stands},
		{"a Part of one that is not known", part(77, 0, 1, 5), iso.Stands},
		{"of one that fell, just below its First", part(4, 1, 1, 1), iso.Stands},
		{"of one that fell, behind its Last", part(3, 0, 1, 7), iso.Falls},
		{"of one that fell, at the stable offset", part(4, 1, 1, 8), iso.Later},
		{"of another epoch", part(4, 0, 1, 5), iso.Stands},
		{"of another producer", part(5, 1, 1, 5), iso.Stands},
		{"of one that is open, below it", part(5, 0, 1, 5), iso.Stands},
		{"not valid: below 0", plain(1, -1), iso.Stands},
		{"far below 0", part(4, 1, 1, math.MinInt64), iso.Stands},
		{"beyond all offsets", part(4, 1, 1, math.MaxInt64), iso.Later},
		{"a Kind that there is not", odd, iso.Stands},
		{"a marker with records, below 0", batch(0, -1, api.Commit, 2, -5), iso.Sign},
		{"no records", api.Batch{}, iso.Stands},
	} {
		before := seen(v)
		if got := v.Fate(c.b); got != c.fate {
			t.Errorf("%s: Fate: %d, not %d", c.what, got, c.fate)
		}
		if n := len(v.Pick(c.b)); n > 0 && c.fate != iso.Stands || c.fate == iso.Stands && n != len(c.b.L) {
			t.Errorf("%s: Pick: %d records", c.what, n)
		}
		if seen(v) != before {
			t.Errorf("%s: Fate changed the view", c.what)
		}
	}
	empty := iso.New()
	for kind, fate := range []int{iso.Later, iso.Later, iso.Sign, iso.Sign} {
		if got := empty.Fate(batch(3, 0, kind, 1, 0)); got != fate {
			t.Errorf("Kind %d, nothing accepted: %d, not %d", kind, got, fate)
		}
	}
	v.Forget(8)
	if got := v.Fate(part(4, 1, 1, 5)); got != iso.Stands {
		t.Errorf("Fate of one that was forgotten: %d", got)
	}
}

// P8.2: no, one and more batches, in the order of the arguments, whatever that is.
func TestPick(t *testing.T) {
	l := []api.Batch{part(3, 0, 2, 0), plain(3, 2), part(4, 0, 2, 5), commit(3, 0, 7), abort(4, 0, 8), part(3, 1, 1, 9), plain(1, 10)}
	v := taken(t, l...)
	picksAre(t, "none", v, nil)
	picksAre(t, "an empty list", v, []api.Batch{})
	picksAre(t, "one", v, l[:1], 0, 1)
	picksAre(t, "one that falls", v, l[2:3])
	picksAre(t, "a marker", v, l[3:4])
	picksAre(t, "one that is open", v, l[5:6])
	picksAre(t, "all", v, l, 0, 1, 2, 3, 4)
	picksAre(t, "the other way round", v, []api.Batch{l[6], l[5], l[4], l[3], l[2], l[1], l[0]}, 2, 3, 4, 0, 1)
	picksAre(t, "twice", v, []api.Batch{l[1], l[0], l[1]}, 2, 3, 4, 0, 1, 2, 3, 4)
	take(t, v, abort(3, 1, 11))
	picksAre(t, "more is stable", v, l, 0, 1, 2, 3, 4, 10)
	got := v.Pick(l...)
	if got[2] != (rec.At{Offset: 2, Record: l[1].L[0]}) {
		t.Errorf("Pick: %v, not %v", got[2], l[1].L[0])
	}
	given := []api.Batch{plain(2, 2)}
	got = v.Pick(given...)
	got[0].Key = "other"
	if !rec.Same(given[0], plain(2, 2)) {
		t.Error("Pick shares memory with its argument")
	}
	given[0].L[1].Key = "other"
	if got[1].Key != "k3" {
		t.Error("an argument that is written to changes what Pick returned")
	}
}

// P8.3: offsets at, below and above a Last.
func TestForget(t *testing.T) {
	state := []api.Batch{part(3, 0, 1, 0), part(4, 0, 1, 1), abort(4, 0, 2), abort(3, 0, 3), part(5, 0, 1, 4), part(6, 2, 1, 5), abort(6, 2, 9)}
	all := []iso.Txn{{4, 0, 1, 2}, {3, 0, 0, 3}, {6, 2, 5, 9}}
	for _, c := range []struct {
		offset int64
		n      int
	}{
		{math.MinInt64, 0}, {-1, 0}, {0, 0}, {1, 0}, {2, 0}, {3, 1}, {4, 2}, {5, 2}, {9, 2}, {10, 3}, {api.MaxOffset + 1, 3}, {math.MaxInt64, 3},
	} {
		v := taken(t, state...)
		what := fmt.Sprintf("Forget(%d)", c.offset)
		if n := v.Forget(c.offset); n != c.n {
			t.Errorf("%s: %d, not %d", what, n, c.n)
		}
		txnsAre(t, what, v.Fallen(), all[c.n:]...)
		txnsAre(t, what, v.Open(), iso.Txn{Pid: 5, First: 4, Last: -1})
		offsetsAre(t, what, v, 4, 10)
		if n := v.Forget(c.offset); n != 0 {
			t.Errorf("%s again: %d", what, n)
		}
		for i, x := range all {
			err := api.OK
			if i >= c.n {
				err = api.ErrFenced
			}
			want(t, what+": May", v.May(part(x.Pid, x.Epoch, 1, 10)), err)
		}
	}
}

// P8.3: the same identity may fall again once it is forgotten, and is known by its last fall then.
func TestForgotten(t *testing.T) {
	v := taken(t, part(4, 0, 1, 0), abort(4, 0, 1))
	v.Forget(2)
	take(t, v, part(4, 0, 1, 2), abort(4, 0, 3))
	txnsAre(t, "Fallen", v.Fallen(), iso.Txn{Pid: 4, First: 2, Last: 3})
	picksAre(t, "Pick", v, []api.Batch{part(4, 0, 1, 0), part(4, 0, 1, 2)}, 0)
}

// P8.3: open transactions by First, aborted ones by Last; Stable is the least First.
func TestOrder(t *testing.T) {
	v := iso.New()
	pids := []int64{40, 3, 1000, 7, api.MaxPid, 1, 12, 500, 2, 88}
	var open, fallen []iso.Txn
	for i, pid := range pids {
		take(t, v, part(pid, i%3, 1, int64(i)))
		open = append(open, iso.Txn{Pid: pid, Epoch: i % 3, First: int64(i), Last: -1})
	}
	txnsAre(t, "Open", v.Open(), open...)
	offsetsAre(t, "all open", v, 0, 10)
	for i, end := range []int{4, 0, 1, 9, 2, 3, 5, 7, 6, 8} {
		last := 10 + int64(i)
		take(t, v, abort(pids[end], end%3, last))
		open = slices.DeleteFunc(open, func(x iso.Txn) bool { return x.Pid == pids[end] })
		fallen = append(fallen, iso.Txn{Pid: pids[end], Epoch: end % 3, First: int64(end), Last: last})
		txnsAre(t, "Open", v.Open(), open...)
		txnsAre(t, "Fallen", v.Fallen(), fallen...)
		stable := last + 1
		if len(open) > 0 {
			stable = open[0].First
		}
		offsetsAre(t, "one less", v, stable, last+1)
	}
}

// P8.1 to P8.5, P8.8: calls at random, against a model that keeps every batch; now and then the view is a copy, or loaded from its bytes.
func TestModel(t *testing.T) {
	rnd := rand.New(rand.NewSource(8))
	for round := range 300 {
		v, m := iso.New(), &model{}
		for range 60 {
			b := someBatch(rnd, m)
			got := v.May(b)
			want(t, fmt.Sprint("Take of ", b), v.Take(b), got)
			want(t, fmt.Sprint("May of ", b), got, m.take(b))
			switch rnd.Intn(30) {
			case 0:
				v = loaded(t, "in between", v.Bytes())
			case 1:
				v = v.Copy()
			case 2:
				offset := m.next - int64(rnd.Intn(30))
				if round%2 == 0 {
					offset = -1 // nothing is forgotten in these rounds
				}
				if got, want := v.Forget(offset), m.forget(offset); got != want {
					t.Errorf("Forget(%d): %d, not %d", offset, got, want)
				}
			}
			agree(t, v, m)
			if t.Failed() {
				return
			}
		}
	}
}

// P8.5 to P8.7: a record below the stable offset is committed if its batch is plain or the first marker behind it is a Commit; a transaction stands or falls as one; what was picked once stays, ahead of all that comes later.
func TestConsequences(t *testing.T) {
	rnd := rand.New(rand.NewSource(9))
	stood, fell := 0, 0
	for range 200 {
		v, m := iso.New(), &model{}
		var before []rec.At
		for range 50 {
			b := someBatch(rnd, m)
			stable := v.Stable()
			if m.take(b) != v.Take(b) {
				t.Fatalf("Take of %v", b)
			}
			if v.Stable() < stable || v.Stable() > v.Next() {
				t.Errorf("Stable was %d, is %d; Next is %d", stable, v.Stable(), v.Next())
			}
			now := v.Pick(m.past...)
			if len(now) < len(before) || !slices.Equal(now[:len(before)], before) {
				t.Fatalf("Pick was %v, is %v", before, now)
			}
			before = now
		}
		fates := map[int64]int{} // by the offset of the marker that ended a transaction
		for i, b := range m.past {
			if isMarker(b) || b.Base >= v.Stable() {
				continue
			}
			end, ended := m.end(i)
			fate := v.Fate(b)
			if (fate == iso.Stands) != (b.Kind == api.Plain || end.Kind == api.Commit) {
				t.Errorf("Fate of %v: %d; it was ended by %v", b, fate, end)
			}
			if fate == iso.Stands {
				stood++
			} else {
				fell++
			}
			if b.Kind == api.Plain {
				continue
			}
			if other, there := fates[end.Base]; !ended || there && other != fate {
				t.Errorf("%v: %d, another of its transaction: %d", b, fate, other)
			}
			fates[end.Base] = fate
		}
	}
	if stood < 1000 || fell < 500 {
		t.Errorf("%d stood, %d fell", stood, fell)
	}
}

// P8.3: a copy and what it was copied from go on apart; results are memory of their own.
func TestCopies(t *testing.T) {
	state := []api.Batch{part(3, 0, 1, 0), part(4, 0, 1, 1), abort(4, 0, 2)}
	v := taken(t, state...)
	c := v.Copy()
	same(t, "Copy", c, v)
	take(t, c, abort(3, 0, 3), part(5, 0, 1, 4))
	c.Forget(3)
	same(t, "the first one", v, taken(t, state...))
	c = v.Copy()
	take(t, v, commit(3, 0, 3), part(6, 0, 1, 4), abort(6, 0, 5))
	v.Forget(9)
	same(t, "the copy", c, taken(t, state...))

	open, fallen, b := c.Open(), c.Fallen(), c.Bytes()
	open[0].First, fallen[0].Epoch = 9, 9
	_, _ = append(open[:0], iso.Txn{Pid: 8}), append(fallen[:0], iso.Txn{Pid: 8})
	clear(b)
	same(t, "results that were written to", c, taken(t, state...))
	kept := c.Fallen()
	take(t, c, abort(3, 0, 3))
	c.Forget(3)
	txnsAre(t, "a result from before", kept, iso.Txn{Pid: 4, First: 1, Last: 2})
}

// A nil view, and the zero one, which is as good as a new one.
func TestNil(t *testing.T) {
	var v *iso.View
	for _, b := range []api.Batch{{}, part(3, 0, 1, 0), plain(1, 0), commit(3, 0, 0), abort(3, 0, -1)} {
		want(t, "May", v.May(b), api.ErrNil)
		want(t, "Take", v.Take(b), api.ErrNil)
		if v.Fate(b) != iso.Later {
			t.Error("Fate", v.Fate(b))
		}
		if len(v.Pick(b, b)) != 0 {
			t.Error("Pick", v.Pick(b, b))
		}
	}
	if below := plain(1, -1); v.Fate(below) != iso.Later || len(v.Pick(below)) != 0 || len(v.Pick()) != 0 {
		t.Error("Fate, Pick", v.Fate(below), v.Pick(below), v.Pick())
	}
	if len(v.Open()) != 0 || len(v.Fallen()) != 0 || len(v.Bytes()) != 0 || v.Forget(9) != 0 || v.Copy() != nil {
		t.Error("Open, Fallen, Bytes, Forget, Copy", seen(v), v.Forget(9), v.Copy())
	}
	offsetsAre(t, "nil", v, 0, 0)
	for _, first := range []api.Batch{part(3, 0, 1, 0), commit(3, 0, 0), plain(1, 0)} {
		var zero iso.View
		zero.Forget(9)
		same(t, "the zero view", zero.Copy(), iso.New())
		take(t, &zero, first, part(4, 0, 1, 1), abort(4, 0, 2))
		same(t, "the zero view", &zero, taken(t, first, part(4, 0, 1, 1), abort(4, 0, 2)))
	}
}
