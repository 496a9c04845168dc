package rec_test

import (
	"math"
	"math/rand"
	"slices"
	"testing"

	"towpath/api"
	"towpath/rec"
)

// P3.4: the chapter's example, and the numbers of each part.
func TestSplit(t *testing.T) {
	l := rec.Split(example1(), 1)
	if len(l) != 2 || !equal(l[0], api.Batch{Base: 5, Time: 9, L: example1().L[:1]}) || !equal(l[1], api.Batch{Base: 6, Time: 9, L: example1().L[1:]}) {
		t.Errorf("example 1: %+v", l)
	}
	b := owned(64)
	for _, c := range []struct {
		n     int
		sizes []int
	}{
		{math.MinInt, nil}, {-1, nil}, {0, nil},
		{1, slices.Repeat([]int{1}, 64)},
		{2, slices.Repeat([]int{2}, 32)},
		{21, []int{21, 21, 21, 1}},
		{32, []int{32, 32}},
		{63, []int{63, 1}},
		{64, []int{64}}, {65, []int{64}}, {math.MaxInt, []int{64}},
	} {
		l := rec.Split(b, c.n)
		if len(l) != len(c.sizes) {
			t.Fatalf("n %d: %d parts", c.n, len(l))
		}
		at := 0
		for i, p := range l {
			want := api.Batch{Base: 100 + int64(at), Pid: 7, Epoch: 3, Seq: 40 + at, Kind: api.Part, Time: 50, L: b.L[at : at+c.sizes[i]]}
			if !equal(p, want) {
				t.Errorf("n %d, part %d: %+v, not %+v", c.n, i, p, want)
			}
			at += len(p.L)
		}
	}
}

// P3.4: a marker is one part; a batch at the end of the numbers has parts up to it; one that is not valid has none.
func TestSplitEdges(t *testing.T) {
	mark := api.Batch{Base: 8, Pid: 3, Epoch: 2, Kind: api.Abort, Time: 7}
	for _, n := range []int{1, 2, math.MaxInt} {
		if l := rec.Split(mark, n); len(l) != 1 || !equal(l[0], mark) {
			t.Errorf("a marker, n %d: %+v", n, l)
		}
	}
	for _, n := range []int{0, -1, math.MinInt} {
		if l := rec.Split(mark, n); len(l) != 0 {
			t.Errorf("a marker, n %d: %+v", n, l)
		}
	}
	last := api.Batch{Base: api.MaxOffset - 1, Pid: api.MaxPid, Seq: api.MaxSeq - 1, Kind: api.Part, L: make([]api.Record, 2)}
	if l := rec.Split(last, 1); len(l) != 2 || l[1].Base != api.MaxOffset || l[1].Seq != api.MaxSeq {
		t.Errorf("the last offsets: %+v", l)
	}
	for _, f := range faults() {
		b := owned(1)
		f.do(&b)
		if l := rec.Split(b, 1); len(l) != 0 {
			t.Errorf("%s: %+v", f.name, l)
		}
	}
}

// P3.7 and P3.8: the parts of any batch merge into it, and their records are its records.
func TestSplitAndMerge(t *testing.T) {
	rnd := rand.New(rand.NewSource(6))
	for round := 0; round < 300; {
		b := someBatch(rnd)
		if modelValid(b) != api.OK {
			continue
		}
		round++
		for _, n := range []int{1, 2, 3, 7, 32, 62, 63, 64, 65, math.MaxInt} {
			l := rec.Split(b, n)
			for i, p := range l {
				if modelValid(p) != api.OK || i > 0 && p.Base != rec.Next(l[i-1]) || i < len(l)-1 && len(p.L) != n {
					t.Fatalf("part %d of %+v by %d: %+v", i, b, n, p)
				}
			}
			if m, err := rec.Merge(l...); err != api.OK || !equal(m, b) {
				t.Fatalf("Merge of %+v: %+v, %d, not %+v", l, m, err, b)
			}
			if !slices.Equal(rec.Flat(l...), rec.Flat(b)) {
				t.Fatalf("Flat of %+v: %+v, not %+v", l, rec.Flat(l...), rec.Flat(b))
			}
		}
	}
}

// P3.4: the errors of Merge, in their order.
func TestMergeErrors(t *testing.T) {
	parts := func() []api.Batch { return rec.Split(owned(6), 2) }
	with := func(f func(l []api.Batch)) []api.Batch {
		l := parts()
		f(l)
		return l
	}
	mark := api.Batch{Base: 106, Pid: 7, Epoch: 3, Kind: api.Commit, Time: 50}
	nobody := rec.Split(api.Batch{Base: 5, L: make([]api.Record, 2)}, 1)
	full := owned(64)
	more := owned(1)
	more.Base, more.Seq = 164, 104
	apart := more
	apart.Base++
	for _, c := range []struct {
		name string
		l    []api.Batch
		want api.Errno
	}{
		{"nothing", nil, api.ErrNone},
		{"an empty list", []api.Batch{}, api.ErrNone},
		{"a zero batch", []api.Batch{{}}, api.ErrArg},
		{"65 records alone", []api.Batch{owned(65)}, api.ErrLong},
		{"the parts", parts(), api.OK},
		{"two of them", parts()[1:], api.OK},
		{"of nobody", nobody, api.OK},
		{"a gap", []api.Batch{parts()[0], parts()[2]}, api.ErrArg},
		{"the other way round", []api.Batch{parts()[1], parts()[0]}, api.ErrArg},
		{"one twice", []api.Batch{parts()[0], parts()[0]}, api.ErrArg},
		{"another Kind", with(func(l []api.Batch) { l[1].Kind = api.Plain }), api.ErrArg},
		{"another Pid", with(func(l []api.Batch) { l[2].Pid = 8 }), api.ErrArg},
		{"another Epoch", with(func(l []api.Batch) { l[2].Epoch++ }), api.ErrArg},
		{"another Time", with(func(l []api.Batch) { l[1].Time++ }), api.ErrArg},
		{"Base one above", with(func(l []api.Batch) { l[1].Base++ }), api.ErrArg},
		{"Base one below", with(func(l []api.Batch) { l[2].Base-- }), api.ErrArg},
		{"Seq one above", with(func(l []api.Batch) { l[1].Seq++ }), api.ErrArg},
		{"Seq one below", with(func(l []api.Batch) { l[2].Seq-- }), api.ErrArg},
		{"the same Seq", with(func(l []api.Batch) { l[1].Seq = l[0].Seq }), api.ErrArg},
		{"of nobody and of one", []api.Batch{nobody[0], {Base: 6, Pid: 1, Seq: 1, L: make([]api.Record, 1)}}, api.ErrArg},
		{"a marker alone", []api.Batch{mark}, api.OK},
		{"a marker behind", append(parts(), mark), api.ErrArg},
		{"a marker ahead", []api.Batch{mark, {Base: 107, Pid: 7, Epoch: 3, Kind: api.Part, Time: 50, L: make([]api.Record, 1)}}, api.ErrArg},
		{"two markers", []api.Batch{mark, {Base: 107, Pid: 7, Epoch: 3, Kind: api.Commit, Time: 50}}, api.ErrArg},
		{"the first one that is not valid: ErrLong", with(func(l []api.Batch) { l[1].L[0].Key = tooLong; l[2].L[0].Time = -1 }), api.ErrLong},
		{"the first one that is not valid: ErrArg", with(func(l []api.Batch) { l[1].L[0].Time = -1; l[2].L[0].Key = tooLong }), api.ErrArg},
		{"not valid ahead of a gap", with(func(l []api.Batch) { l[1].Base++; l[2].L[1].Value = tooLong }), api.ErrLong},
		{"not valid ahead of a marker", []api.Batch{mark, {Base: api.MaxOffset, L: make([]api.Record, 2)}}, api.ErrExhausted},
		{"65 records", []api.Batch{full, more}, api.ErrLong},
		{"a gap ahead of 65 records", []api.Batch{full, apart}, api.ErrArg},
		{"64 records", rec.Split(full, 9), api.OK},
	} {
		m, err := rec.Merge(c.l...)
		if err != c.want || err != api.OK && !equal(m, api.Batch{}) {
			t.Errorf("%s: %+v, %d, not %d", c.name, m, err, c.want)
		}
	}
	far := append(rec.Split(full, 32), more)
	far = append(far, far[0])
	if _, err := rec.Merge(far...); err != api.ErrArg {
		t.Error("what does not follow comes ahead of too many, wherever it stands", err)
	}
}

// P3.4: what Merge answers, and a single batch of any kind unchanged.
func TestMerge(t *testing.T) {
	for _, b := range []api.Batch{example1(), owned(1), owned(64), rec.Mark(3, 2, true, 7), {Base: 8, Pid: 3, Kind: api.Abort}} {
		if m, err := rec.Merge(b); err != api.OK || !equal(m, b) {
			t.Errorf("one batch: %+v, %d, not %+v", m, err, b)
		}
	}
	b := owned(6)
	uneven := []api.Batch{rec.Split(b, 1)[0]}
	rest, _ := rec.From(b, 101)
	uneven = append(uneven, rec.Split(rest, 4)...)
	if m, err := rec.Merge(uneven...); err != api.OK || !equal(m, b) {
		t.Errorf("parts of 1, 4 and 1: %+v, %d", m, err)
	}
}

// P3.3: offsets by each batch, markers left out, valid or not.
func TestFlat(t *testing.T) {
	r := func(key string) api.Record { return api.Record{Key: key, Value: "v" + key, Time: 3} }
	l := rec.Flat(
		api.Batch{Base: 7, L: []api.Record{r("a"), r("b")}},
		rec.Mark(3, 2, true, 7),
		api.Batch{Base: 2, Pid: 1, Kind: api.Part, L: []api.Record{r("c")}},
		api.Batch{Kind: api.Abort, L: []api.Record{r("of a marker")}},
		api.Batch{Kind: api.Commit, L: []api.Record{r("of a marker")}},
		api.Batch{},
		api.Batch{Base: -9, Kind: 4, L: []api.Record{r("d"), r("e")}},
	)
	want := []rec.At{{Offset: 7, Record: r("a")}, {Offset: 8, Record: r("b")}, {Offset: 2, Record: r("c")}, {Offset: -9, Record: r("d")}, {Offset: -8, Record: r("e")}}
	if !slices.Equal(l, want) {
		t.Errorf("%+v, not %+v", l, want)
	}
	if len(rec.Flat()) != 0 || len(rec.Flat(api.Batch{}, rec.Mark(1, 1, true, 1))) != 0 {
		t.Error("records of nothing")
	}
	if l := rec.Flat(example1()); len(l) != 2 || l[1].Offset != 6 || !l[1].Gone || l[0].Value != "x" {
		t.Errorf("example 1: %+v", l)
	}
	if l := rec.Flat(api.Batch{Base: math.MaxInt64, L: make([]api.Record, 2)}); len(l) != 2 || l[0].Offset != math.MaxInt64 {
		t.Errorf("an extreme Base: %+v", l)
	}
}

// P3.5: from any offset, with and without a producer.
func TestFrom(t *testing.T) {
	if b, ok := rec.From(example1(), 6); !ok || !equal(b, api.Batch{Base: 6, Time: 9, L: example1().L[1:]}) {
		t.Errorf("example 1 from 6: %+v, %t", b, ok)
	}
	b := owned(64)
	for _, offset := range []int64{math.MinInt64, math.MinInt64 + 99, -1, 0, 99, 100} {
		if c, ok := rec.From(b, offset); !ok || !equal(c, b) {
			t.Errorf("from %d: %+v, %t", offset, c, ok)
		}
	}
	for i := range 64 {
		want := api.Batch{Base: 100 + int64(i), Pid: 7, Epoch: 3, Seq: 40 + i, Kind: api.Part, Time: 50, L: b.L[i:]}
		if c, ok := rec.From(b, 100+int64(i)); !ok || !equal(c, want) {
			t.Errorf("from %d: %+v, %t", 100+i, c, ok)
		}
	}
	for _, offset := range []int64{164, 165, api.MaxOffset, math.MaxInt64} {
		if c, ok := rec.From(b, offset); ok || !equal(c, api.Batch{}) {
			t.Errorf("from %d: %+v, %t", offset, c, ok)
		}
	}
}

func TestFromMarkersAndWrong(t *testing.T) {
	mark := api.Batch{Base: 8, Pid: 3, Epoch: 2, Kind: api.Commit, Time: 7}
	for _, offset := range []int64{math.MinInt64, 0, 7, 8} {
		if c, ok := rec.From(mark, offset); !ok || !equal(c, mark) {
			t.Errorf("a marker from %d: %+v, %t", offset, c, ok)
		}
	}
	for _, offset := range []int64{9, 10, math.MaxInt64} {
		if c, ok := rec.From(mark, offset); ok || !equal(c, api.Batch{}) {
			t.Errorf("a marker from %d: %+v, %t", offset, c, ok)
		}
	}
	last := api.Batch{Base: api.MaxOffset - 1, Pid: 1, Seq: api.MaxSeq - 1, Kind: api.Part, L: make([]api.Record, 2)}
	if c, ok := rec.From(last, api.MaxOffset); !ok || c.Base != api.MaxOffset || c.Seq != api.MaxSeq || len(c.L) != 1 {
		t.Errorf("the last offset: %+v, %t", c, ok)
	}
	for _, f := range append(faults(), fault{"zero", 0, api.ErrArg, func(b *api.Batch) { *b = api.Batch{} }}) {
		b := owned(1)
		f.do(&b)
		for _, offset := range []int64{math.MinInt64, -1, 0, 100, math.MaxInt64} {
			if c, ok := rec.From(b, offset); ok || !equal(c, api.Batch{}) {
				t.Errorf("%s from %d: %+v, %t", f.name, offset, c, ok)
			}
		}
	}
}

// Rules 4 and 5: what the calls answer shares no records with their arguments, nor with each other.
func TestPartsMemory(t *testing.T) {
	write := func(l []api.Record) {
		for i := range l {
			l[i] = api.Record{Key: "written"}
		}
		_ = append(l, api.Record{Key: "appended"}, api.Record{Key: "appended"})
	}
	fresh := owned(6)
	for name, make := range map[string]func(b api.Batch) []api.Batch{
		"Split by 1":     func(b api.Batch) []api.Batch { return rec.Split(b, 1) },
		"Split by 4":     func(b api.Batch) []api.Batch { return rec.Split(b, 4) },
		"Split by 6":     func(b api.Batch) []api.Batch { return rec.Split(b, 6) },
		"Merge of one":   func(b api.Batch) []api.Batch { m, _ := rec.Merge(b); return []api.Batch{m} },
		"Merge of more":  func(b api.Batch) []api.Batch { m, _ := rec.Merge(rec.Split(b, 4)...); return []api.Batch{m} },
		"From the start": func(b api.Batch) []api.Batch { c, _ := rec.From(b, 0); return []api.Batch{c} },
		"From within":    func(b api.Batch) []api.Batch { c, _ := rec.From(b, 103); return []api.Batch{c} },
	} {
		b := owned(6)
		want := make(b)
		for i := range want {
			got := make(b)
			write(got[i].L)
			if !equal(b, fresh) {
				t.Errorf("%s: writing into a result changes the argument", name)
			}
			for j := range got {
				if j != i && !equal(got[j], want[j]) {
					t.Errorf("%s: writing into a result changes another one", name)
				}
			}
		}
		got := make(b)
		write(b.L)
		for j := range got {
			if !equal(got[j], want[j]) {
				t.Errorf("%s: writing into the argument changes a result", name)
			}
		}
	}
	b := owned(6)
	roomy := rec.Split(b, 3)
	roomy[0].L = slices.Grow(roomy[0].L, 10)
	if _, err := rec.Merge(roomy...); err != api.OK || roomy[0].L[:4][3] != (api.Record{}) {
		t.Error("Merge appends to its argument")
	}
	flat := rec.Flat(b)
	write(b.L)
	if flat[0].Record != fresh.L[0] || flat[5].Record != fresh.L[5] {
		t.Error("Flat shares memory with its argument")
	}
	l := []api.Batch{owned(2), rec.Mark(1, 1, true, 1)}
	rec.Flat(l...)[0].Key = "written"
	if !equal(l[0], owned(2)) {
		t.Error("Flat gives out its argument")
	}
}
