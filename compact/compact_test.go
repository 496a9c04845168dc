package compact_test

import (
	"fmt"
	"math"
	"math/rand"
	"slices"
	"strings"
	"testing"

	"towpath/api"
	"towpath/compact"
	"towpath/rec"
)

// The chapter's examples.
func TestExamples(t *testing.T) {
	l := example()
	recordsAre(t, "Clean(9)", compact.Clean(9, l...), l[3])
	recordsAre(t, "Clean(5)", compact.Clean(5, l...), l[2], l[3])
	if n := compact.Spare(9, l...); n != 3 {
		t.Errorf("Spare(9): %d", n)
	}
	bs, err := compact.Pack(at(3, "x", "1"), at(4, "y", "2"), at(6, "z", "3"))
	want(t, "Pack", err, api.OK)
	batchesAre(t, "Pack", bs,
		api.Batch{Base: 3, Time: 5, L: []api.Record{{Key: "x", Value: "1", Time: 5}, {Key: "y", Value: "2", Time: 5}}},
		api.Batch{Base: 6, Time: 5, L: []api.Record{{Key: "z", Value: "3", Time: 5}}})
}

// P9.1: which records are obsolete, by themselves and at the horizon's edges.
func TestClean(t *testing.T) {
	value := rec.At{Record: api.Record{Key: "k", Gone: true, Value: "v", Time: 4}} // rec.Valid would refuse it
	for _, c := range []struct {
		what    string
		horizon int64
		l       []rec.At
		stay    string // the places of those that stay
	}{
		{"no records", 9, nil, ""},
		{"one", 9, []rec.At{at(0, "a", "1")}, "0"},
		{"one without a value", 9, []rec.At{at(0, "a", "")}, "0"},
		{"one below the horizon", math.MaxInt64, []rec.At{at(0, "a", "1")}, "0"},
		{"one gone below the horizon", 6, []rec.At{gone(0, "a", 5)}, ""},
		{"one gone at the horizon", 5, []rec.At{gone(0, "a", 5)}, "0"},
		{"one gone above the horizon", 4, []rec.At{gone(0, "a", 5)}, "0"},
		{"the least horizon", math.MinInt64, []rec.At{gone(0, "a", math.MinInt64)}, "0"},
		{"the greatest horizon", math.MaxInt64, []rec.At{gone(0, "a", math.MaxInt64), gone(1, "b", math.MaxInt64-1)}, "0"},
		{"a horizon below 0", -3, []rec.At{gone(0, "a", -4), gone(1, "b", -3)}, "1"},
		{"gone at the horizon, ahead of a value", 5, []rec.At{gone(0, "a", 5), at(1, "a", "1")}, "1"},
		{"gone below the horizon, behind a value", 6, []rec.At{at(0, "a", "1"), gone(1, "a", 5)}, ""},
		{"gone at the horizon, behind a value", 5, []rec.At{at(0, "a", "1"), gone(1, "a", 5)}, "1"},
		{"gone twice, the first time above the horizon", 5, []rec.At{gone(0, "a", 9), gone(1, "a", 4)}, ""},
		{"gone twice, the second time above the horizon", 5, []rec.At{gone(0, "a", 4), gone(1, "a", 9)}, "1"},
		{"the empty key", 0, []rec.At{at(0, "", "1"), at(1, "a", "2"), at(2, "", "3")}, "1 2"},
		{"keys that begin others", 0, []rec.At{at(0, "a", "1"), at(1, "aa", "2"), at(2, "a\x00", "3")}, "0 1 2"},
		{"keys in the order of the list", 0, []rec.At{at(0, "c", "1"), at(1, "b", "2"), at(2, "a", "3")}, "0 1 2"},
		{"offsets that don't increase", 0, []rec.At{at(9, "a", "1"), at(-1, "b", "2"), at(9, "a", "3")}, "1 2"},
		{"the last in the list, not of the greatest offset or time", 0, []rec.At{at(7, "a", "1"), gone(3, "a", 0)}, "1"},
		{"gone with a value", 5, []rec.At{value}, ""},
		{"gone with a value, at the horizon", 4, []rec.At{value}, "0"},
	} {
		var stay []rec.At
		for i, r := range c.l {
			if slices.Contains(strings.Fields(c.stay), fmt.Sprint(i)) {
				stay = append(stay, r)
			}
		}
		recordsAre(t, c.what, compact.Clean(c.horizon, c.l...), stay...)
		if n := compact.Spare(c.horizon, c.l...); n != len(c.l)-len(stay) {
			t.Errorf("%s: Spare: %d", c.what, n)
		}
	}
}

// P9.1, P9.5, P9.6, by chance.
func TestCleanMany(t *testing.T) {
	rnd := rand.New(rand.NewSource(1))
	for range 2000 {
		l := someRecords(rnd, rnd.Intn(20), 0)
		horizon := int64(rnd.Intn(12))
		what := fmt.Sprintf("Clean(%d, %v)", horizon, l)
		once := compact.Clean(horizon, l...)
		recordsAre(t, what, once, cleaned(horizon, l)...)
		if n := compact.Spare(horizon, l...); n != len(l)-len(once) {
			t.Errorf("%s: Spare: %d", what, n)
		}
		recordsAre(t, what+" again", compact.Clean(horizon, once...), once...)
		if n := compact.Spare(horizon, once...); n != 0 {
			t.Errorf("%s again: Spare: %d", what, n)
		}
		i := rnd.Intn(len(l) + 1)
		first := compact.Clean(horizon, l[:i]...)
		recordsAre(t, fmt.Sprint(what, " first up to ", i), compact.Clean(horizon, append(first, l[i:]...)...), once...)
		recordsAre(t, what+": the table", applied(t, once...).All(), applied(t, l...).All()...)
	}
}

// P9.2: records that do not increase.
func TestPackOrder(t *testing.T) {
	long := strings.Repeat("x", api.MaxText+1)
	for _, offsets := range [][]int64{
		{3, 3}, {3, 2}, {0, 1, 2, 2}, {0, 1, 0}, {0, -1}, {math.MaxInt64, math.MinInt64}, {math.MinInt64, math.MinInt64}, {0, 5, 4, 9},
	} {
		var l []rec.At
		for _, o := range offsets {
			l = append(l, at(o, "k", "v"))
		}
		bs, err := compact.Pack(l...)
		want(t, fmt.Sprint(offsets), err, api.ErrRange)
		batchesAre(t, fmt.Sprint(offsets), bs)
		l[0].Key = long // ErrRange comes ahead of what rec.Valid says
		_, err = compact.Pack(l...)
		want(t, fmt.Sprint(offsets, " with a key too long"), err, api.ErrRange)
	}
}

// sizes packs records at these offsets, and tells base and size of each batch.
func sizes(t *testing.T, offsets ...int64) string {
	t.Helper()
	var l []rec.At
	for i, o := range offsets {
		l = append(l, at(o, fmt.Sprint("k", i), "v"))
		l[i].Time = 1000 - int64(i)
	}
	bs, err := compact.Pack(l...)
	want(t, "Pack", err, api.OK)
	recordsAre(t, "Flat of Pack", rec.Flat(bs...), l...)
	var s []string
	for _, b := range bs {
		want(t, "Valid", rec.Valid(b), api.OK)
		if b.Time != b.L[0].Time || b.Pid != 0 || b.Kind != api.Plain {
			t.Errorf("batch %v", b)
		}
		s = append(s, fmt.Sprint(b.Base, "+", len(b.L)))
	}
	return strings.Join(s, " ")
}

func upTo(from, n int64) []int64 {
	var l []int64
	for i := range n {
		l = append(l, from+i)
	}
	return l
}

// P9.2, P9.7: where a batch ends.
func TestPackRuns(t *testing.T) {
	for _, c := range []struct {
		offsets []int64
		want    string
	}{
		{nil, ""},
		{[]int64{0}, "0+1"},
		{[]int64{7}, "7+1"},
		{[]int64{0, 1}, "0+2"},
		{[]int64{0, 2}, "0+1 2+1"},
		{[]int64{3, 4, 6}, "3+2 6+1"},
		{[]int64{0, 2, 3, 5, 6, 7}, "0+1 2+2 5+3"},
		{upTo(5, 63), "5+63"},
		{upTo(5, 64), "5+64"},
		{upTo(5, 65), "5+64 69+1"},
		{upTo(0, 128), "0+64 64+64"},
		{upTo(0, 129), "0+64 64+64 128+1"},
		{append(upTo(0, 64), 65), "0+64 65+1"},
		{append(upTo(0, 63), 64), "0+63 64+1"},
		{append([]int64{0}, upTo(2, 65)...), "0+1 2+64 66+1"},
		{upTo(api.MaxOffset-1, 2), fmt.Sprint(int64(api.MaxOffset-1), "+2")},
		{upTo(api.MaxOffset-64, 65), fmt.Sprint(int64(api.MaxOffset-64), "+64 ", int64(api.MaxOffset), "+1")},
	} {
		if got := sizes(t, c.offsets...); got != c.want {
			t.Errorf("Pack at %v: %s, not %s", c.offsets, got, c.want)
		}
	}
}

// P9.2: the error of the first batch that is not valid, and no batches.
func TestPackInvalid(t *testing.T) {
	long := strings.Repeat("x", api.MaxText+1)
	late, early, odd := at(0, "k", "v"), at(0, "k", "v"), gone(0, "k", 5)
	late.Time, early.Time, odd.Value = api.MaxTime+1, -1, "v"
	moved := func(r rec.At, offset int64) rec.At { r.Offset = offset; return r }
	for _, c := range []struct {
		what string
		l    []rec.At
		err  api.Errno
	}{
		{"a key too long", []rec.At{at(0, long, "v")}, api.ErrLong},
		{"a value too long", []rec.At{at(0, "k", long)}, api.ErrLong},
		{"the longest texts", []rec.At{at(0, long[1:], long[1:])}, api.OK},
		{"a time too late", []rec.At{late}, api.ErrArg},
		{"a time below 0", []rec.At{early}, api.ErrArg},
		{"gone, with a value", []rec.At{odd}, api.ErrArg},
		{"an offset below 0", []rec.At{at(-1, "k", "v")}, api.ErrArg},
		{"the least offset", []rec.At{at(math.MinInt64, "k", "v")}, api.ErrArg},
		{"an offset above the last one", []rec.At{at(api.MaxOffset+1, "k", "v")}, api.ErrArg},
		{"the greatest offset", []rec.At{at(math.MaxInt64, "k", "v")}, api.ErrArg},
		{"across the last offset", []rec.At{at(api.MaxOffset, "k", "v"), at(api.MaxOffset+1, "k", "v")}, api.ErrExhausted},
		{"below and above 0", []rec.At{at(-1, "k", "v"), at(0, "k", "v")}, api.ErrArg},
		{"the last record of a batch", []rec.At{at(0, "k", "v"), moved(late, 1)}, api.ErrArg},
		{"the second batch", []rec.At{at(0, "k", "v"), at(2, long, "v"), at(3, "k", "v")}, api.ErrLong},
		{"two errors, in the order of batches", []rec.At{at(0, "k", "v"), at(2, long, "v"), moved(early, 4)}, api.ErrLong},
		{"two errors, the other way round", []rec.At{at(0, "k", "v"), moved(early, 2), at(4, long, "v")}, api.ErrArg},
		{"two errors in a batch, as Valid orders them", []rec.At{moved(early, 0), at(1, long, "v")}, api.ErrArg},
		{"two errors in a batch, record by record", []rec.At{at(0, "k", "v"), at(1, long, "v"), moved(early, 2)}, api.ErrLong},
	} {
		bs, err := compact.Pack(c.l...)
		want(t, c.what, err, c.err)
		if err != api.OK && len(bs) > 0 {
			t.Errorf("%s: %v beside an error", c.what, bs)
		}
	}
	many := upTo(api.MaxOffset-63, 65) // 64 fit, and the next batch does not
	var l []rec.At
	for _, o := range many {
		l = append(l, at(o, "k", "v"))
	}
	_, err := compact.Pack(l...)
	want(t, "a batch behind the last offset", err, api.ErrArg)
}

// P9.2, P9.7, by chance.
func TestPackMany(t *testing.T) {
	rnd := rand.New(rand.NewSource(2))
	for range 500 {
		l := someRecords(rnd, rnd.Intn(200), int64(rnd.Intn(9)))
		if len(l) > 0 && rnd.Intn(4) == 0 {
			l[rnd.Intn(len(l))].Offset -= int64(rnd.Intn(3))
		}
		if len(l) > 0 && rnd.Intn(4) == 0 {
			l[rnd.Intn(len(l))].Time = -1
		}
		bs, err := compact.Pack(l...)
		wantBatches, wantErr := packed(l)
		want(t, fmt.Sprintf("Pack(%v)", l), err, wantErr)
		batchesAre(t, fmt.Sprintf("Pack(%v)", l), bs, wantBatches...)
		if err == api.OK {
			recordsAre(t, "Flat of Pack", rec.Flat(bs...), l...)
		}
	}
}

// Rules 4 and 5: nothing that is handed in changes, and no result shares memory with it or with another one.
func TestMemory(t *testing.T) {
	l := example()
	c, d := compact.Clean(5, l...), compact.Clean(5, l...)
	c[0].Key = "z"
	_ = append(c[:1], at(9, "z", "z"))
	recordsAre(t, "what was cleaned", l, example()...)
	recordsAre(t, "cleaned again", d, l[2], l[3])

	bs, _ := compact.Pack(l...)
	bs[0].L[0].Key = "z"
	recordsAre(t, "what was packed", l, example()...)
	long := make([]rec.At, 0, 100)
	for i := range 70 {
		long = append(long, at(int64(i), "k", "v"))
	}
	bs, _ = compact.Pack(long...)
	bs[0].L = append(bs[0].L, api.Record{Key: "z"})
	if bs[1].L[0].Key != "k" || long[64].Key != "k" {
		t.Error("a batch of Pack shares memory with the next one")
	}
	long[0].Key = "z"
	if bs[0].L[0].Key != "k" {
		t.Error("Pack keeps what it was given")
	}
}
