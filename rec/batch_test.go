package rec_test

import (
	"math"
	"math/rand"
	"testing"

	"towpath/api"
	"towpath/rec"
)

// fault spoils a valid batch of one record with a producer; rank is the place of its error in the chapter's list.
type fault struct {
	name string
	rank float64
	err  api.Errno
	do   func(b *api.Batch)
}

func faults() []fault {
	first := func(f func(r *api.Record)) func(b *api.Batch) {
		return func(b *api.Batch) {
			if len(b.L) > 0 {
				f(&b.L[0])
			}
		}
	}
	return []fault{
		{"Kind -1", 1, api.ErrArg, func(b *api.Batch) { b.Kind = -1 }},
		{"Kind 4", 1, api.ErrArg, func(b *api.Batch) { b.Kind = 4 }},
		{"Base -1", 1, api.ErrArg, func(b *api.Batch) { b.Base = -1 }},
		{"Base above", 1, api.ErrArg, func(b *api.Batch) { b.Base = api.MaxOffset + 1 }},
		{"Base extreme", 1, api.ErrArg, func(b *api.Batch) { b.Base = math.MaxInt64 }},
		{"Pid -1", 1, api.ErrArg, func(b *api.Batch) { b.Pid = -1 }},
		{"Pid above", 1, api.ErrArg, func(b *api.Batch) { b.Pid = api.MaxPid + 1 }},
		{"Epoch -1", 1, api.ErrArg, func(b *api.Batch) { b.Epoch = -1 }},
		{"Epoch above", 1, api.ErrArg, func(b *api.Batch) { b.Epoch = api.MaxEpoch + 1 }},
		{"Seq -1", 1, api.ErrArg, func(b *api.Batch) { b.Seq = -1 }},
		{"Seq above", 1, api.ErrArg, func(b *api.Batch) { b.Seq = api.MaxSeq + 1 }},
		{"Seq extreme", 1, api.ErrArg, func(b *api.Batch) { b.Seq = math.MaxInt }},
		{"Time -1", 1, api.ErrArg, func(b *api.Batch) { b.Time = -1 }},
		{"Time above", 1, api.ErrArg, func(b *api.Batch) { b.Time = api.MaxTime + 1 }},
		{"Part of nobody", 2, api.ErrArg, func(b *api.Batch) { b.Pid = 0 }},
		{"no records", 2, api.ErrArg, func(b *api.Batch) { b.L = nil }},
		{"a marker with Seq and records", 2, api.ErrArg, func(b *api.Batch) { b.Kind = api.Commit }},
		{"65 records", 3, api.ErrLong, func(b *api.Batch) {
			for len(b.L) > 0 && len(b.L) <= api.MaxRecords {
				b.L = append(b.L, api.Record{Key: "k"})
			}
		}},
		{"a long Key", 4, api.ErrLong, first(func(r *api.Record) { r.Key = tooLong })},
		{"a long Value", 4, api.ErrLong, first(func(r *api.Record) { r.Value = tooLong })},
		{"a record's Time -1", 4.1, api.ErrArg, first(func(r *api.Record) { r.Time = -1 })},
		{"a record's Time above", 4.1, api.ErrArg, first(func(r *api.Record) { r.Time = api.MaxTime + 1 })},
		{"a value that is gone", 4.1, api.ErrArg, first(func(r *api.Record) {
			if r.Gone = true; r.Value == "" {
				r.Value = "v"
			}
		})},
		{"offsets run out", 5, api.ErrExhausted, func(b *api.Batch) {
			b.Base, b.L = api.MaxOffset, append(b.L, api.Record{Key: "last"})
		}},
		{"Seqs run out", 5, api.ErrExhausted, func(b *api.Batch) {
			b.Seq, b.L = api.MaxSeq, append(b.L, api.Record{Key: "last"})
		}},
	}
}

// P3.1: each fault alone tells its error; of two, the first one of the list is told.
func TestValidFaults(t *testing.T) {
	good := owned(1)
	if err := rec.Valid(good); err != api.OK {
		t.Fatal("a batch without a fault", err)
	}
	l := faults()
	for _, f := range l {
		b := rec.Copy(good)
		f.do(&b)
		if err := rec.Valid(b); err != f.err {
			t.Errorf("%s: %d, not %d", f.name, err, f.err)
		}
	}
	for _, f := range l {
		for _, g := range l {
			b := rec.Copy(good)
			f.do(&b)
			g.do(&b)
			want := f
			if g.rank < f.rank {
				want = g
			}
			if modelValid(b) != want.err && !undone(f, g) {
				t.Errorf("%s and %s: the model says %d, not %d", f.name, g.name, modelValid(b), want.err)
			}
			if err := rec.Valid(b); err != modelValid(b) {
				t.Errorf("%s and %s: %d, not %d", f.name, g.name, err, want.err)
			}
		}
	}
}

// undone: some faults mend another one that was made ahead of them.
func undone(f, g fault) bool {
	pair := f.name + "+" + g.name
	for _, s := range []string{
		"Pid -1+Part of nobody", "Pid above+Part of nobody",
		"no records+offsets run out", "no records+Seqs run out",
		"Base -1+offsets run out", "Base above+offsets run out", "Base extreme+offsets run out",
		"Seq -1+Seqs run out", "Seq above+Seqs run out", "Seq extreme+Seqs run out",
		"Kind -1+a marker with Seq and records", "Kind 4+a marker with Seq and records",
	} {
		if pair == s {
			return true
		}
	}
	return false
}

// P3.1: what the list lets pass and what it does not, one thing each.
func TestValidEdges(t *testing.T) {
	full := owned(api.MaxRecords)
	edge := func(f func(b *api.Batch)) api.Batch {
		b := rec.Copy(full)
		f(&b)
		return b
	}
	mark := rec.Mark(1, 0, true, 0)
	for _, c := range []struct {
		name string
		b    api.Batch
		want api.Errno
	}{
		{"the zero batch", api.Batch{}, api.ErrArg},
		{"example 1", example1(), api.OK},
		{"64 records", full, api.OK},
		{"65 records", owned(api.MaxRecords + 1), api.ErrLong},
		{"65 records of which the first is wrong", edge(func(b *api.Batch) { b.L = append(b.L, b.L[0]); b.L[0].Time = -1 }), api.ErrLong},
		{"Plain of a producer", edge(func(b *api.Batch) { b.Kind = api.Plain }), api.OK},
		{"Plain of nobody", edge(func(b *api.Batch) { b.Kind, b.Pid, b.Epoch, b.Seq = api.Plain, 0, 0, 0 }), api.OK},
		{"Plain of nobody with Epoch", edge(func(b *api.Batch) { b.Kind, b.Pid, b.Seq = api.Plain, 0, 0 }), api.ErrArg},
		{"Plain of nobody with Seq", edge(func(b *api.Batch) { b.Kind, b.Pid, b.Epoch = api.Plain, 0, 0 }), api.ErrArg},
		{"Part of nobody", edge(func(b *api.Batch) { b.Pid, b.Epoch, b.Seq = 0, 0, 0 }), api.ErrArg},
		{"the last Pid", edge(func(b *api.Batch) { b.Pid = api.MaxPid }), api.OK},
		{"the last Epoch", edge(func(b *api.Batch) { b.Epoch = api.MaxEpoch }), api.OK},
		{"the last Time", edge(func(b *api.Batch) { b.Time = api.MaxTime }), api.OK},
		{"Time 0", edge(func(b *api.Batch) { b.Time = 0 }), api.OK},
		{"the last Base for 64", edge(func(b *api.Batch) { b.Base = api.MaxOffset - 63 }), api.OK},
		{"one above", edge(func(b *api.Batch) { b.Base = api.MaxOffset - 62 }), api.ErrExhausted},
		{"the last Base", edge(func(b *api.Batch) { b.Base, b.L = api.MaxOffset, b.L[:1] }), api.OK},
		{"the last Seq for 64", edge(func(b *api.Batch) { b.Seq = api.MaxSeq - 63 }), api.OK},
		{"one above", edge(func(b *api.Batch) { b.Seq = api.MaxSeq - 62 }), api.ErrExhausted},
		{"the last Seq", edge(func(b *api.Batch) { b.Seq, b.L = api.MaxSeq, b.L[:1] }), api.OK},
		{"a Key of MaxText", edge(func(b *api.Batch) { b.L[63].Key = long }), api.OK},
		{"a Value of MaxText", edge(func(b *api.Batch) { b.L[63].Value = long }), api.OK},
		{"a Key of one more", edge(func(b *api.Batch) { b.L[63].Key = tooLong }), api.ErrLong},
		{"a Value of one more", edge(func(b *api.Batch) { b.L[63].Value = tooLong }), api.ErrLong},
		{"a Value of one more, gone", edge(func(b *api.Batch) { b.L[5] = api.Record{Value: tooLong, Gone: true} }), api.ErrLong},
		{"a record at the last Time", edge(func(b *api.Batch) { b.L[63].Time = api.MaxTime }), api.OK},
		{"a record behind it", edge(func(b *api.Batch) { b.L[63].Time = api.MaxTime + 1 }), api.ErrArg},
		{"an empty record", edge(func(b *api.Batch) { b.L[5] = api.Record{} }), api.OK},
		{"an empty record, gone", edge(func(b *api.Batch) { b.L[5] = api.Record{Gone: true} }), api.OK},
		{"the first record's error is told: ErrArg", edge(func(b *api.Batch) { b.L[1].Time, b.L[2].Key = -1, tooLong }), api.ErrArg},
		{"the first record's error is told: ErrLong", edge(func(b *api.Batch) { b.L[2].Time, b.L[1].Key = -1, tooLong }), api.ErrLong},
		{"a record's error ahead of ErrExhausted", edge(func(b *api.Batch) { b.Base, b.L[63].Time = api.MaxOffset, -1 }), api.ErrArg},
		{"a marker", mark, api.OK},
		{"an Abort", rec.Mark(1, 0, false, 0), api.OK},
		{"a marker at the last numbers", api.Batch{Base: api.MaxOffset, Pid: api.MaxPid, Epoch: api.MaxEpoch, Kind: api.Abort, Time: api.MaxTime}, api.OK},
		{"a marker of nobody", rec.Mark(0, 0, true, 0), api.ErrArg},
		{"a marker with Seq", api.Batch{Pid: 1, Seq: 1, Kind: api.Commit}, api.ErrArg},
		{"a marker with records", api.Batch{Pid: 1, Kind: api.Commit, L: []api.Record{{Key: "k"}}}, api.ErrArg},
		{"a marker with 65 records", api.Batch{Pid: 1, Kind: api.Abort, L: make([]api.Record, 65)}, api.ErrArg},
		{"a marker with an empty list", api.Batch{Pid: 1, Kind: api.Commit, L: []api.Record{}}, api.OK},
		{"extreme numbers", api.Batch{Base: math.MinInt64, Pid: math.MinInt64, Epoch: math.MinInt, Seq: math.MinInt, Kind: math.MinInt, Time: math.MinInt64}, api.ErrArg},
	} {
		if err := rec.Valid(c.b); err != c.want || modelValid(c.b) != c.want {
			t.Errorf("%s: %d, not %d (the model: %d)", c.name, err, c.want, modelValid(c.b))
		}
	}
	bad := example1()
	bad.Pid = -1
	if err := rec.Valid(bad); err != api.ErrArg {
		t.Error("the chapter's example: Pid -1", err)
	}
}

// P3.1 and P3.2: any batches, with none, one or two numbers spoilt.
func TestValidByModel(t *testing.T) {
	rnd := rand.New(rand.NewSource(3))
	count := map[api.Errno]int{}
	for range 20000 {
		b := someBatch(rnd)
		for range rnd.Intn(3) {
			b = spoil(rnd, b)
		}
		want := modelValid(b)
		count[want]++
		raw, err := rec.Encode(b)
		if rec.Valid(b) != want || err != want || want != api.OK && (len(raw) > 0 || rec.Next(b) != 0 || rec.Size(b) != 0) {
			t.Fatalf("%+v: Valid %d, Encode %x %d, Next %d, Size %d, not %d", b, rec.Valid(b), raw, err, rec.Next(b), rec.Size(b), want)
		}
		if span := modelSpan(b); rec.Span(b) != span || want == api.OK && rec.Next(b) != b.Base+int64(span) {
			t.Fatalf("%+v: Span %d, Next %d, not %d", b, rec.Span(b), rec.Next(b), span)
		}
	}
	for _, e := range []api.Errno{api.OK, api.ErrArg, api.ErrLong, api.ErrExhausted} {
		if count[e] < 100 {
			t.Errorf("only %d batches with %d", count[e], e)
		}
	}
}

func modelSpan(b api.Batch) int {
	if isMarker(b) {
		return 1
	}
	return len(b.L)
}

// P3.1: Span counts whether the batch is valid or not, Next only for a valid one.
func TestSpanNext(t *testing.T) {
	for _, c := range []struct {
		name string
		b    api.Batch
		span int
		next int64
	}{
		{"the zero batch", api.Batch{}, 0, 0},
		{"example 1", example1(), 2, 7},
		{"64 records", owned(64), 64, 164},
		{"65 records", owned(65), 65, 0},
		{"a marker", api.Batch{Base: 9, Pid: 1, Kind: api.Commit}, 1, 10},
		{"an Abort", api.Batch{Base: 9, Pid: 1, Kind: api.Abort}, 1, 10},
		{"a marker with records", api.Batch{Pid: 1, Kind: api.Abort, L: make([]api.Record, 3)}, 1, 0},
		{"a marker of nobody", api.Batch{Kind: api.Commit}, 1, 0},
		{"a kind that is none", api.Batch{Kind: 4, L: make([]api.Record, 3)}, 3, 0},
		{"a kind that is none, without records", api.Batch{Kind: -1}, 0, 0},
		{"the last offset", api.Batch{Base: api.MaxOffset, L: make([]api.Record, 1)}, 1, api.MaxOffset + 1},
		{"a marker at the last offset", api.Batch{Base: api.MaxOffset, Pid: 1, Kind: api.Commit}, 1, api.MaxOffset + 1},
		{"beyond it", api.Batch{Base: api.MaxOffset, L: make([]api.Record, 2)}, 2, 0},
		{"an extreme Base", api.Batch{Base: math.MaxInt64, L: make([]api.Record, 2)}, 2, 0},
	} {
		if rec.Span(c.b) != c.span || rec.Next(c.b) != c.next {
			t.Errorf("%s: Span %d, Next %d, not %d, %d", c.name, rec.Span(c.b), rec.Next(c.b), c.span, c.next)
		}
	}
}

// P3.1: Mark takes its fields as they are, valid or not.
func TestMark(t *testing.T) {
	for _, c := range []struct {
		pid    int64
		epoch  int
		commit bool
		time   int64
		kind   int
	}{
		{3, 2, true, 7, api.Commit},
		{3, 2, false, 7, api.Abort},
		{0, 0, false, 0, api.Abort},
		{-1, -2, true, -3, api.Commit},
		{math.MaxInt64, math.MaxInt, false, math.MinInt64, api.Abort},
	} {
		b := rec.Mark(c.pid, c.epoch, c.commit, c.time)
		if want := (api.Batch{Pid: c.pid, Epoch: c.epoch, Kind: c.kind, Time: c.time}); !equal(b, want) {
			t.Errorf("Mark(%d, %d, %t, %d): %+v", c.pid, c.epoch, c.commit, c.time, b)
		}
	}
}

// P3.3: each field counts, of valid batches and of others.
func TestSame(t *testing.T) {
	for _, b := range []api.Batch{{}, example1(), owned(3), rec.Mark(3, 2, true, 7), {Kind: 9, Base: -5, L: []api.Record{{Value: "v", Gone: true, Time: -1}}}} {
		if c := rec.Copy(b); !rec.Same(b, b) || !rec.Same(b, c) || !rec.Same(c, b) {
			t.Errorf("%+v is not the same as itself", b)
		}
		for name, f := range map[string]func(c *api.Batch){
			"Base":          func(c *api.Batch) { c.Base++ },
			"Pid":           func(c *api.Batch) { c.Pid++ },
			"Epoch":         func(c *api.Batch) { c.Epoch++ },
			"Seq":           func(c *api.Batch) { c.Seq++ },
			"Kind":          func(c *api.Batch) { c.Kind++ },
			"Time":          func(c *api.Batch) { c.Time++ },
			"a record more": func(c *api.Batch) { c.L = append(c.L, api.Record{}) },
		} {
			c := rec.Copy(b)
			f(&c)
			if rec.Same(b, c) || rec.Same(c, b) {
				t.Errorf("%+v is the same but for %s", b, name)
			}
		}
	}
	for name, f := range map[string]func(r *api.Record){
		"Key":   func(r *api.Record) { r.Key += "k" },
		"Value": func(r *api.Record) { r.Value += "v" },
		"Gone":  func(r *api.Record) { r.Gone = !r.Gone },
		"Time":  func(r *api.Record) { r.Time++ },
	} {
		for i := range 3 {
			a, b := owned(3), owned(3)
			f(&b.L[i])
			if rec.Same(a, b) || rec.Same(b, a) {
				t.Errorf("%+v is the same but for the %s of a record", a, name)
			}
		}
	}
	if a, b := rec.Mark(3, 2, true, 7), rec.Mark(3, 2, true, 7); !rec.Same(a, api.Batch{Pid: 3, Epoch: 2, Kind: api.Commit, Time: 7, L: []api.Record{}}) || !rec.Same(api.Batch{L: []api.Record{}}, api.Batch{}) || !rec.Same(a, b) {
		t.Error("nil and empty slices differ")
	}
}

// P3.3: a copy is equal, and writing into either leaves the other one.
func TestCopy(t *testing.T) {
	for _, b := range []api.Batch{{}, {L: []api.Record{}}, example1(), owned(64), owned(65), rec.Mark(1, 2, false, 3), {Kind: -1, Time: -1, L: []api.Record{{Gone: true, Value: "v"}}}} {
		if !equal(rec.Copy(b), b) {
			t.Errorf("Copy of %+v: %+v", b, rec.Copy(b))
		}
	}
	b := example1()
	b.L = append(make([]api.Record, 0, 8), b.L...)
	c := rec.Copy(b)
	c.L[0].Key = "other"
	c.L = append(c.L, api.Record{Key: "appended"})
	if !equal(b, example1()) || b.L[:3][2] != (api.Record{}) {
		t.Error("writing into a copy changes the batch", b.L[:3])
	}
	c = rec.Copy(b)
	b.L[1].Value = "other"
	_ = append(b.L, api.Record{Key: "appended"})
	if !equal(c, example1()) {
		t.Error("writing into a batch changes its copy", c)
	}
}
