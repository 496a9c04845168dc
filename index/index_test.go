package index_test

import (
	"fmt"
	"math"
	"math/rand"
	"slices"
	"testing"

	"towpath/api"
	"towpath/index"
)

// Both examples of the chapter.
func TestExamples(t *testing.T) {
	x := made(t, 100)
	want(t, "Note", x.Note(0, 0, 5), api.OK)
	want(t, "Note", x.Note(7, 60, 9), api.OK)
	want(t, "Note", x.Note(9, 130, 3), api.OK)
	entries(t, "All", x, index.Entry{Before: -1}, index.Entry{Offset: 9, Place: 130, Before: 9})
	for _, c := range []struct{ what, got, want string }{
		{"Find(8)", found(x.Find(8)), found(index.Entry{Before: -1}, true)},
		{"After(9)", found(x.After(9)), found(index.Entry{Before: -1}, true)},
		{"After(10)", found(x.After(10)), found(index.Entry{Offset: 9, Place: 130, Before: 9}, true)},
	} {
		if c.got != c.want {
			t.Errorf("%s: %s, not %s", c.what, c.got, c.want)
		}
	}
	want(t, "Cut", x.Cut(9), api.OK)
	entries(t, "behind Cut(9)", x, index.Entry{Before: -1})
	want(t, "Note behind Cut(9)", x.Note(9, 130, 3), api.OK)
	entries(t, "noted again", x, index.Entry{Before: -1}, index.Entry{Offset: 9, Place: 130, Before: 9})

	x = made(t, 100)
	want(t, "Note", x.Note(0, 5, 1), api.OK)
	want(t, "the offset again", x.Note(0, 9, 1), api.ErrOrder)
	want(t, "the place again", x.Note(1, 5, 1), api.ErrOrder)
}

// P5.1: gaps at the limits and beyond.
func TestNew(t *testing.T) {
	for _, gap := range []int{1, 2, 100, api.MaxDisk - 1, api.MaxDisk} {
		x := made(t, gap)
		entries(t, "New", x)
		if x.Gap() != gap {
			t.Errorf("New(%d): Gap %d", gap, x.Gap())
		}
	}
	for _, gap := range []int{0, -1, math.MinInt, api.MaxDisk + 1, math.MaxInt} {
		if x, err := index.New(gap); x != nil || err != api.ErrArg {
			t.Errorf("New(%d): %v, %d", gap, x, err)
		}
	}
}

// P5.1, P5.8: numbers at the limits and beyond, ahead of those that are not above the last ones; what is refused changes nothing.
func TestNote(t *testing.T) {
	for _, c := range []struct {
		offset int64
		place  int
		time   int64
		want   api.Errno
	}{
		{6, 11, 0, api.OK},
		{6, 11, api.MaxTime, api.OK},
		{api.MaxOffset, api.MaxDisk, api.MaxTime, api.OK},
		{5, 11, 0, api.ErrOrder},
		{4, 11, 0, api.ErrOrder},
		{0, 11, 0, api.ErrOrder},
		{6, 10, 0, api.ErrOrder},
		{6, 9, 0, api.ErrOrder},
		{6, 0, 0, api.ErrOrder},
		{0, 0, 0, api.ErrOrder},
		{-1, 11, 0, api.ErrArg},
		{math.MinInt64, 11, 0, api.ErrArg},
		{api.MaxOffset + 1, 11, 0, api.ErrArg},
		{math.MaxInt64, 11, 0, api.ErrArg},
		{6, -1, 0, api.ErrArg},
		{6, math.MinInt, 0, api.ErrArg},
		{6, api.MaxDisk + 1, 0, api.ErrArg},
		{6, math.MaxInt, 0, api.ErrArg},
		{6, 11, -1, api.ErrArg},
		{6, 11, math.MinInt64, api.ErrArg},
		{6, 11, api.MaxTime + 1, api.ErrArg},
		{6, 11, math.MaxInt64, api.ErrArg},
		{5, 10, -1, api.ErrArg}, // both errors apply
		{5, -1, 0, api.ErrArg},
		{-1, 10, 0, api.ErrArg},
	} {
		x := made(t, 1)
		x.Note(5, 10, 7)
		before := string(x.Bytes())
		what := fmt.Sprintf("Note(%d, %d, %d)", c.offset, c.place, c.time)
		want(t, what, x.Note(c.offset, c.place, c.time), c.want)
		if c.want == api.OK {
			entries(t, what, x, index.Entry{Offset: 5, Place: 10, Before: -1}, index.Entry{Offset: c.offset, Place: c.place, Before: 7})
		} else if string(x.Bytes()) != before {
			t.Errorf("%s changed %x to %x", what, before, x.Bytes())
		}
	}
	x := made(t, api.MaxDisk)
	want(t, "all at 0", x.Note(0, 0, 0), api.OK)
	want(t, "all at the limits", x.Note(api.MaxOffset, api.MaxDisk, api.MaxTime), api.OK)
	entries(t, "the greatest gap", x, index.Entry{Before: -1}, index.Entry{Offset: api.MaxOffset, Place: api.MaxDisk})
	want(t, "behind the last place", x.Note(api.MaxOffset, api.MaxDisk, 0), api.ErrOrder)
}

// P5.1: an entry for a batch that is gap bytes behind the last entry, not behind the last batch, and for none that is nearer.
func TestGap(t *testing.T) {
	x := made(t, 10)
	for i, place := range []int{3, 4, 12, 13, 22, 23, 32, 43, 50, 52, 53} {
		want(t, "Note", x.Note(int64(i), place, int64(i)), api.OK)
	}
	entries(t, "gap 10", x, index.Entry{0, 3, -1}, index.Entry{3, 13, 2}, index.Entry{5, 23, 4}, index.Entry{7, 43, 6}, index.Entry{10, 53, 9})
	x = made(t, 1)
	for i := range 5 {
		want(t, "Note", x.Note(int64(i), i, 0), api.OK)
	}
	if x.Len() != 5 {
		t.Errorf("gap 1: %v", x.All())
	}
}

// cuttable has entries at 10, 20, 30, and a batch behind the last one.
func cuttable(t *testing.T) *index.Index {
	x := made(t, 100)
	for _, b := range []batch{{offset: 10, place: 5, time: 3}, {offset: 15, place: 50, time: 9}, {offset: 20, place: 105, time: 1}, {offset: 30, place: 300, time: 2}, {offset: 35, place: 350, time: 4}} {
		want(t, "Note", x.Note(b.offset, b.place, b.time), api.OK)
	}
	return x
}

// P5.2: cuts at 0, at an entry, beside it, behind all; the last noted batch is the last entry from then on; the latest time stays.
func TestCut(t *testing.T) {
	all := []index.Entry{{10, 5, -1}, {20, 105, 9}, {30, 300, 9}}
	for _, c := range []struct {
		offset int64
		left   int
	}{
		{0, 0}, {9, 0}, {10, 0}, {11, 1}, {15, 1}, {16, 1}, {20, 1}, {21, 2}, {29, 2}, {30, 2}, {31, 3}, {35, 3}, {36, 3}, {api.MaxOffset, 3},
	} {
		what := fmt.Sprintf("Cut(%d)", c.offset)
		x := cuttable(t)
		want(t, what, x.Cut(c.offset), api.OK)
		entries(t, what, x, all[:c.left]...)
		last := index.Entry{Offset: -1, Place: -1}
		if c.left > 0 {
			last = all[c.left-1]
			want(t, what+", then the last entry's offset", x.Note(last.Offset, last.Place+1, 0), api.ErrOrder)
			want(t, what+", then the last entry's place", x.Note(last.Offset+1, last.Place, 0), api.ErrOrder)
		}
		want(t, what+", then a note", x.Note(last.Offset+1, last.Place+1, 0), api.OK)
		if c.left == 0 {
			entries(t, what+", then a note", x, index.Entry{Offset: 0, Place: 0, Before: 9})
			continue
		}
		entries(t, what+", then a note", x, all[:c.left]...)
		want(t, what+", then one at the gap", x.Note(last.Offset+2, last.Place+100, 0), api.OK)
		entries(t, what+", then one at the gap", x, append(slices.Clone(all[:c.left]), index.Entry{last.Offset + 2, last.Place + 100, 9})...)
	}
	for _, offset := range []int64{-1, math.MinInt64, api.MaxOffset + 1, math.MaxInt64} {
		x := cuttable(t)
		want(t, fmt.Sprintf("Cut(%d)", offset), x.Cut(offset), api.ErrArg)
		same(t, "a Cut that is refused", x, cuttable(t))
	}
	x := made(t, 1)
	want(t, "Cut of nothing", x.Cut(0), api.OK)
	same(t, "Cut of nothing", x, made(t, 1))
	want(t, "Note of 0, 0", x.Note(0, 0, 0), api.OK)
	want(t, "Cut of all", x.Cut(0), api.OK)
	want(t, "Cut of all again", x.Cut(0), api.OK)
	want(t, "Note of 0, 0 again", x.Note(0, 0, 0), api.OK)
	entries(t, "the latest time of one that was cut", x, index.Entry{0, 0, 0})
}

// P5.3: ahead of all entries, at each, between them, and behind all.
func TestFind(t *testing.T) {
	x := cuttable(t)
	l := x.All()
	for _, c := range []struct {
		offset int64
		at     int
	}{
		{math.MinInt64, -1}, {-1, -1}, {0, -1}, {9, -1}, {10, 0}, {19, 0}, {20, 1}, {29, 1}, {30, 2}, {35, 2}, {api.MaxOffset, 2}, {math.MaxInt64, 2},
	} {
		finds(t, fmt.Sprintf("Find(%d)", c.offset), l, c.at, found(x.Find(c.offset)))
	}
	if e, ok := made(t, 1).Find(0); ok || e != (index.Entry{}) {
		t.Error("Find in an empty index", e, ok)
	}
}

func finds(t *testing.T, what string, l []index.Entry, at int, got string) {
	t.Helper()
	want := found(index.Entry{}, false)
	if at >= 0 {
		want = found(l[at], true)
	}
	if got != want {
		t.Errorf("%s: %s, not %s", what, got, want)
	}
}

// P5.3: times ahead of all, at each Before, between, and behind all.
func TestAfter(t *testing.T) {
	x := made(t, 1)
	for i, time := range []int64{4, 2, 4, 8, 7, 20} { // Before: -1 4 4 4 8 8
		want(t, "Note", x.Note(int64(i), i, time), api.OK)
	}
	for _, c := range []struct {
		time int64
		at   int
	}{
		{math.MinInt64, -1}, {-2, -1}, {-1, -1}, {0, 0}, {4, 0}, {5, 3}, {8, 3}, {9, 5}, {20, 5}, {21, 5}, {math.MaxInt64, 5},
	} {
		finds(t, fmt.Sprintf("After(%d)", c.time), x.All(), c.at, found(x.After(c.time)))
	}
	if e, ok := made(t, 1).After(9); ok || e != (index.Entry{}) {
		t.Error("After in an empty index", e, ok)
	}
	x.Cut(0)
	x.Note(0, 0, 1)
	finds(t, "After of a time that was cut", x.All(), -1, found(x.After(20)))
	finds(t, "After of a later one", x.All(), 0, found(x.After(21)))
}

// P5.1 to P5.6, P5.8: notes and cuts at random, against a model that keeps every batch.
func TestModel(t *testing.T) {
	rnd := rand.New(rand.NewSource(5))
	for range 300 {
		gap := []int{1, 2, 7, 30, api.MaxDisk}[rnd.Intn(5)]
		x, m := made(t, gap), &model{gap: gap}
		for range 60 {
			act(t, rnd, x, m)
			if t.Failed() {
				return
			}
		}
	}
}

// act makes one call on both, and looks at all that may be seen.
func act(t *testing.T, rnd *rand.Rand, x *index.Index, m *model) {
	var last batch
	if n := len(m.l); n > 0 {
		last = m.l[n-1]
	}
	if rnd.Intn(9) == 0 {
		offset := last.offset - int64(rnd.Intn(40)) + 5
		want(t, "Cut", x.Cut(offset), m.cut(offset))
	} else {
		b := batch{offset: last.offset + int64(rnd.Intn(12)) - 1, place: last.place + rnd.Intn(20) - 1, time: int64(rnd.Intn(50)) - 1}
		want(t, "Note", x.Note(b.offset, b.place, b.time), m.note(b.offset, b.place, b.time))
	}
	entries(t, "All", x, m.all()...)
	if got, want := x.Bytes(), sealed(m.state().body()); string(got) != string(want) {
		t.Errorf("Bytes: %x, not %x", got, want)
	}
	offset, time := last.offset+int64(rnd.Intn(60))-50, int64(rnd.Intn(55))-2
	if got, want := found(x.Find(offset)), m.lastOf(func(e index.Entry) bool { return e.Offset <= offset }); got != want {
		t.Errorf("Find(%d): %s, not %s", offset, got, want)
	}
	if got, want := found(x.After(time)), m.lastOf(func(e index.Entry) bool { return e.Before < time }); got != want {
		t.Errorf("After(%d): %s, not %s", time, got, want)
	}
	near(t, x, m)
	timely(t, x, m, time)
}

// near: P5.5.
func near(t *testing.T, x *index.Index, m *model) {
	for _, b := range m.l {
		e, ok := x.Find(b.offset)
		if !ok || e.Offset > b.offset || e.Place > b.place || b.place-e.Place >= m.gap {
			t.Errorf("Find(%d): %v, %t; the batch is %v, the gap %d", b.offset, e, ok, b, m.gap)
		}
	}
}

// timely: P5.6. A time that counts for a later entry may be that of a batch that was cut: the model's before has it.
func timely(t *testing.T, x *index.Index, m *model, time int64) {
	e, ok := x.After(time)
	for _, b := range m.l {
		if ok && b.offset < e.Offset && b.time >= time {
			t.Errorf("After(%d): %v, behind %v", time, e, b)
		}
		if b.entry && (!ok || b.offset > e.Offset) && b.before < time {
			t.Errorf("After(%d): %v, %t, but there is %v", time, e, ok, b)
		}
	}
}

// Results are copies: writing into them, or appending to them, changes nothing.
func TestCopies(t *testing.T) {
	x := cuttable(t)
	x.Cut(30) // there is memory behind the entries that are left
	l := x.All()
	l[0].Offset = 77
	_ = append(l[:1], index.Entry{Offset: 78}, index.Entry{Offset: 79}, index.Entry{Offset: 80})
	b := x.Bytes()
	b[5] ^= 1
	entries(t, "All", x, index.Entry{10, 5, -1}, index.Entry{20, 105, 9})
	x.Note(30, 300, 0)
	entries(t, "All", x, index.Entry{10, 5, -1}, index.Entry{20, 105, 9}, index.Entry{30, 300, 9})
	kept := x.All()
	x.Cut(0)
	x.Note(1, 1, 1)
	if kept[0] != (index.Entry{10, 5, -1}) {
		t.Error("a result that changed", kept)
	}
	b = cuttable(t).Bytes()
	y, _ := index.Load(b)
	clear(b)
	same(t, "loaded from bytes that were cleared", y, cuttable(t))
}

// A nil index, and the zero one, which is no more than safe.
func TestNil(t *testing.T) {
	var x *index.Index
	want(t, "Note", x.Note(0, 0, 0), api.ErrNil)
	want(t, "Note", x.Note(-1, 0, 0), api.ErrNil)
	want(t, "Cut", x.Cut(0), api.ErrNil)
	want(t, "Cut", x.Cut(-1), api.ErrNil)
	if e, ok := x.Find(0); ok || e != (index.Entry{}) {
		t.Error("Find", e, ok)
	}
	if e, ok := x.After(5); ok || e != (index.Entry{}) {
		t.Error("After", e, ok)
	}
	if len(x.All()) != 0 || x.Len() != 0 || x.Gap() != 0 || len(x.Bytes()) != 0 {
		t.Error("All, Len, Gap, Bytes", x.All(), x.Len(), x.Gap(), x.Bytes())
	}
	var zero index.Index
	zero.Note(1, 1, 1)
	zero.Cut(0)
	zero.Find(1)
	zero.After(1)
	zero.Bytes()
}
