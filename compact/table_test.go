package compact_test

import (
	"fmt"
	"math"
	"math/rand"
	"slices"
	"testing"

	"towpath/api"
	"towpath/compact"
	"towpath/rec"
)

// P9.3: an empty table; each one is another one.
func TestNew(t *testing.T) {
	x := compact.New()
	if seen(x) != fmt.Sprint([]rec.At{}, 0, 0) {
		t.Errorf("New: %s", seen(x))
	}
	apply(t, x, at(3, "a", "1"))
	if y := compact.New(); y.Len() != 0 || y.Next() != 0 {
		t.Error("two tables of New are one")
	}
}

// P9.3: what Apply refuses, whole.
func TestApplyRange(t *testing.T) {
	begin := func() *compact.Table { return applied(t, at(2, "a", "1"), at(4, "b", "2")) } // the next offset is 5
	for _, c := range []struct {
		what    string
		offsets []int64
		err     api.Errno
		next    int64
	}{
		{"no records", nil, api.OK, 5},
		{"below the next offset", []int64{4}, api.ErrRange, 5},
		{"at the next offset", []int64{5}, api.OK, 6},
		{"above the next offset", []int64{6}, api.OK, 7},
		{"the first one below", []int64{4, 5, 6}, api.ErrRange, 5},
		{"below 0", []int64{-1}, api.ErrRange, 5},
		{"the least", []int64{math.MinInt64, 7}, api.ErrRange, 5},
		{"twice the same", []int64{5, 5}, api.ErrRange, 5},
		{"twice the same at the end", []int64{5, 6, 6}, api.ErrRange, 5},
		{"downwards", []int64{6, 5}, api.ErrRange, 5},
		{"downwards in the middle", []int64{5, 8, 7, 9}, api.ErrRange, 5},
		{"with gaps", []int64{5, 8, 100}, api.OK, 101},
		{"up to the last offset", []int64{5, api.MaxOffset}, api.OK, api.MaxOffset + 1},
		{"the last offset", []int64{api.MaxOffset}, api.OK, api.MaxOffset + 1},
		{"above the last offset", []int64{api.MaxOffset + 1}, api.ErrRange, 5},
		{"beyond the last offset", []int64{5, api.MaxOffset, api.MaxOffset + 1}, api.ErrRange, 5},
		{"the greatest", []int64{math.MaxInt64}, api.ErrRange, 5},
	} {
		var l []rec.At
		for i, o := range c.offsets {
			l = append(l, at(o, fmt.Sprint("k", i), "v"))
		}
		x := begin()
		want(t, c.what, x.Apply(l...), c.err)
		if x.Next() != c.next {
			t.Errorf("%s: Next: %d, not %d", c.what, x.Next(), c.next)
		}
		if c.err != api.OK {
			same(t, c.what, x, begin())
		} else if x.Len() != 2+len(l) {
			t.Errorf("%s: Len: %d", c.what, x.Len())
		}
	}
	x := applied(t, at(api.MaxOffset, "a", "1"))
	want(t, "behind the last offset", x.Apply(at(api.MaxOffset+1, "b", "2")), api.ErrRange)
	want(t, "no records behind the last offset", x.Apply(), api.OK)
	want(t, "the first offset of a new table", compact.New().Apply(at(-1, "a", "1")), api.ErrRange)
}

// P9.3: a record replaces that of its key, or removes it.
func TestApply(t *testing.T) {
	x := applied(t, at(0, "b", "1"))
	for _, c := range []struct {
		what string
		r    rec.At
		want []rec.At
	}{
		{"a key ahead", at(1, "a", "2"), []rec.At{at(1, "a", "2"), at(0, "b", "1")}},
		{"a key behind", at(2, "c", "3"), []rec.At{at(1, "a", "2"), at(0, "b", "1"), at(2, "c", "3")}},
		{"a key again", at(3, "b", "4"), []rec.At{at(1, "a", "2"), at(3, "b", "4"), at(2, "c", "3")}},
		{"a key that goes", gone(4, "b", 0), []rec.At{at(1, "a", "2"), at(2, "c", "3")}},
		{"a key that is not there goes", gone(5, "b", 9), []rec.At{at(1, "a", "2"), at(2, "c", "3")}},
		{"a key comes back", at(6, "b", "5"), []rec.At{at(1, "a", "2"), at(6, "b", "5"), at(2, "c", "3")}},
		{"an empty value is a value", at(7, "b", ""), []rec.At{at(1, "a", "2"), at(7, "b", ""), at(2, "c", "3")}},
		{"the same value", at(8, "b", ""), []rec.At{at(1, "a", "2"), at(8, "b", ""), at(2, "c", "3")}},
		{"the empty key", at(9, "", "6"), []rec.At{at(9, "", "6"), at(1, "a", "2"), at(8, "b", ""), at(2, "c", "3")}},
		{"the first one goes", gone(10, "", 0), []rec.At{at(1, "a", "2"), at(8, "b", ""), at(2, "c", "3")}},
		{"the last one goes", gone(11, "c", 0), []rec.At{at(1, "a", "2"), at(8, "b", "")}},
	} {
		apply(t, x, c.r)
		recordsAre(t, c.what, x.All(), c.want...)
		if x.Len() != len(c.want) || x.Next() != c.r.Offset+1 {
			t.Errorf("%s: Len %d, Next %d", c.what, x.Len(), x.Next())
		}
	}
	x = applied(t, at(0, "k", "1"), gone(1, "k", 5), at(2, "k", "2"), at(3, "k", "3"), gone(4, "l", 5), at(5, "l", "4"), gone(6, "l", 5))
	recordsAre(t, "in one call", x.All(), at(3, "k", "3"))
}

// P9.3 is no matter of rec.Valid: a table takes any text and time.
func TestApplyAny(t *testing.T) {
	long := string(make([]byte, 5000))
	odd := rec.At{Offset: 1, Record: api.Record{Key: "odd", Value: "v", Gone: true}}
	x := applied(t, at(0, "odd", "v"), odd, rec.At{Offset: 2, Record: api.Record{Key: long, Value: long, Time: -7}})
	recordsAre(t, "All", x.All(), rec.At{Offset: 2, Record: api.Record{Key: long, Value: long, Time: -7}})
}

// P9.4: Get.
func TestGet(t *testing.T) {
	x := keyed(t, "b", "d", "", "dd")
	for _, k := range []string{"b", "d", "", "dd"} {
		if r, ok := x.Get(k); !ok || r.Key != k || r.Value != k || r.Time != 5 {
			t.Errorf("Get(%q): %v, %v", k, r, ok)
		}
	}
	for _, k := range []string{"a", "c", "ddd", "\x00", "D", "\xff"} {
		if r, ok := x.Get(k); ok || r != (rec.At{}) {
			t.Errorf("Get(%q): %v, %v", k, r, ok)
		}
	}
	apply(t, x, gone(9, "b", 5))
	if r, ok := x.Get("b"); ok || r != (rec.At{}) {
		t.Errorf("Get of a key that went: %v, %v", r, ok)
	}
}

// P9.4: Range, with the chapter's example.
func TestRange(t *testing.T) {
	x := keyed(t, "c", "aa", "b")
	for _, c := range []struct {
		from, to string
		most     int
		want     string
	}{
		{"aa", "c", 9, "aa b"},
		{"", "", 9, "aa b c"},
		{"aa", "", 9, "aa b c"},
		{"ab", "", 9, "b c"},
		{"a", "b", 9, "aa"},
		{"aaa", "bb", 9, "b"},
		{"b", "b", 9, ""},
		{"c", "b", 9, ""},
		{"d", "a", 9, ""},
		{"d", "", 9, ""},
		{"c", "", 9, "c"},
		{"", "aa", 9, ""},
		{"", "aa\x00", 9, "aa"},
		{"b\x00", "c", 9, ""},
		{"", "\xff", 9, "aa b c"},
		{"", "", 0, ""},
		{"", "", -1, ""},
		{"", "", math.MinInt, ""},
		{"", "", 1, "aa"},
		{"", "", 2, "aa b"},
		{"", "", 3, "aa b c"},
		{"", "", 4, "aa b c"},
		{"", "", math.MaxInt, "aa b c"},
		{"aa", "c", 1, "aa"},
		{"b", "", 1, "b"},
		{"c", "b", -1, ""},
		{"c", "b", math.MinInt, ""},
		{"c", "aa", math.MaxInt, ""},
	} {
		l := x.Range(c.from, c.to, c.most)
		if got := keysOf(l); got != c.want {
			t.Errorf("Range(%q, %q, %d): %s, not %s", c.from, c.to, c.most, got, c.want)
		}
		for _, r := range l {
			if w, _ := x.Get(r.Key); w != r {
				t.Errorf("Range(%q, %q, %d): %v, not %v", c.from, c.to, c.most, r, w)
			}
		}
	}
	bytewise := keyed(t, "ä", "z", "Z", "a", "\xff", "aä", "a\x7f", "")
	if got := keysOf(bytewise.Range("", "", 99)); got != " Z a a\x7f aä z ä \xff" {
		t.Errorf("keys byte by byte: %q", got)
	}
	recordsAre(t, "All", bytewise.All(), bytewise.Range("", "", 99)...)
	if l := compact.New().Range("", "", 9); len(l) != 0 {
		t.Errorf("Range of an empty table: %v", l)
	}
}

// P9.4: Same looks at keys and values alone.
func TestSame(t *testing.T) {
	x := applied(t, at(0, "a", "1"), at(1, "b", "2"))
	later := at(7, "a", "1")
	later.Time = 99
	for _, c := range []struct {
		what string
		y    *compact.Table
		same bool
	}{
		{"itself", x, true},
		{"its copy", x.Copy(), true},
		{"other offsets, times and order", applied(t, at(5, "b", "2"), later), true},
		{"a key that came and went", applied(t, at(0, "c", "1"), at(1, "a", "1"), at(2, "b", "2"), gone(3, "c", 5)), true},
		{"another value", applied(t, at(0, "a", "1"), at(1, "b", "3")), false},
		{"another first value", applied(t, at(0, "a", "2"), at(1, "b", "2")), false},
		{"another key", applied(t, at(0, "a", "1"), at(1, "c", "2")), false},
		{"a key less", applied(t, at(0, "a", "1")), false},
		{"a key more", applied(t, at(0, "a", "1"), at(1, "b", "2"), at(2, "c", "3")), false},
		{"values the other way round", applied(t, at(0, "a", "2"), at(1, "b", "1")), false},
		{"key and value joined otherwise", applied(t, at(0, "a1", ""), at(1, "b", "2")), false},
		{"an empty table", compact.New(), false},
		{"nil", nil, false},
	} {
		if x.Same(c.y) != c.same {
			t.Errorf("Same of %s: %v", c.what, !c.same)
		}
		if c.y.Same(x) != c.same {
			t.Errorf("Same the other way round of %s: %v", c.what, !c.same)
		}
	}
	if !compact.New().Same(compact.New()) {
		t.Error("two empty tables are not the same")
	}
	if !compact.New().Same(applied(t, gone(8, "a", 5))) {
		t.Error("an empty table is not the same as one of another next offset")
	}
	if compact.New().Same(nil) {
		t.Error("an empty table is the same as a nil one")
	}
}

// P9.4: a copy and what it was copied from go on apart.
func TestCopy(t *testing.T) {
	x := keyed(t, "a", "b", "c")
	before := seen(x)
	y := x.Copy()
	same(t, "Copy", y, x)
	apply(t, y, at(5, "b", "2"), gone(6, "a", 5), at(7, "bb", "3"))
	if seen(x) != before {
		t.Errorf("the copy changed the table: %s, not %s", seen(x), before)
	}
	after := seen(y)
	apply(t, x, gone(9, "c", 5), at(10, "aa", "4"), at(11, "bb", "5"))
	if seen(y) != after {
		t.Errorf("the table changed the copy: %s, not %s", seen(y), after)
	}
	same(t, "Copy of an empty table", compact.New().Copy(), compact.New())
}

// Rules 4 and 5.
func TestTableMemory(t *testing.T) {
	l := []rec.At{at(0, "a", "1"), at(1, "b", "2"), at(2, "c", "3")}
	x := applied(t, l...)
	before := seen(x)
	l[0].Key, l[2].Value = "z", "z"
	for what, got := range map[string][]rec.At{"All": x.All(), "Range": x.Range("", "", 2), "a part": x.Range("b", "", 1)} {
		for i := range got {
			got[i] = at(9, "z", "z")
		}
		_ = append(got[:len(got)-1], at(9, "y", "y"), at(9, "x", "x"))
		if seen(x) != before {
			t.Errorf("who asked for %s changed the table", what)
		}
	}
	given := example()
	apply(t, compact.New(), given...)
	recordsAre(t, "what was applied", given, example()...)
	first := x.All()
	apply(t, x, at(5, "a", "9"), gone(6, "b", 5))
	recordsAre(t, "a list that was asked for ahead", first, at(0, "a", "1"), at(1, "b", "2"), at(2, "c", "3"))
}

// P9.3, P9.4, by chance and against a model.
func TestTableMany(t *testing.T) {
	rnd := rand.New(rand.NewSource(3))
	for range 200 {
		x, m := compact.New(), &model{}
		for range 20 {
			l := someRecords(rnd, rnd.Intn(6), m.next)
			if len(l) > 0 && rnd.Intn(5) == 0 {
				l[rnd.Intn(len(l))].Offset -= int64(rnd.Intn(3))
			}
			want(t, fmt.Sprintf("Apply(%v) at %d", l, m.next), x.Apply(l...), m.apply(l...))
			agree(t, x, m, rnd)
		}
		y := compact.New()
		for _, r := range cleaned(math.MinInt64, m.past) {
			apply(t, y, r)
		}
		if !x.Same(y) || !y.Same(x) {
			t.Errorf("Same of %v and %v", x.All(), y.All())
		}
		same(t, "Copy", x.Copy(), x)
	}
}

// P9.8: a table does not depend on how its records were divided into calls.
func TestDivided(t *testing.T) {
	rnd := rand.New(rand.NewSource(4))
	for range 300 {
		l := someRecords(rnd, rnd.Intn(30), 0)
		whole, parts := applied(t, l...), compact.New()
		for rest := l; len(rest) > 0; {
			n := rnd.Intn(len(rest) + 1)
			apply(t, parts, rest[:n]...)
			rest = rest[n:]
		}
		same(t, fmt.Sprint("parts of ", l), parts, whole)
	}
}

// Many keys, in any order.
func TestManyKeys(t *testing.T) {
	rnd := rand.New(rand.NewSource(5))
	x := compact.New()
	order := rnd.Perm(3000)
	for i, k := range order {
		apply(t, x, at(int64(i), fmt.Sprintf("%05d", k), fmt.Sprint(i)))
	}
	all := x.All()
	if len(all) != 3000 || !slices.IsSortedFunc(all, func(a, b rec.At) int { return cmpText(a.Key, b.Key) }) {
		t.Fatalf("%d keys", len(all))
	}
	for i, k := range order {
		if r := all[k]; r.Offset != int64(i) || r.Value != fmt.Sprint(i) {
			t.Fatalf("key %d: %v", k, r)
		}
	}
}

func cmpText(a, b string) int {
	if a < b {
		return -1
	}
	return 1
}

// Nil tables, and ones that New did not make.
func TestNil(t *testing.T) {
	var x *compact.Table
	want(t, "Apply", x.Apply(), api.ErrNil)
	want(t, "Apply of records", x.Apply(at(0, "a", "1")), api.ErrNil)
	want(t, "Apply of records that do not increase", x.Apply(at(1, "a", "1"), at(0, "a", "1")), api.ErrNil)
	if r, ok := x.Get("a"); ok || r != (rec.At{}) {
		t.Error("Get", r, ok)
	}
	if len(x.Range("", "", 9)) > 0 || len(x.All()) > 0 || x.Len() != 0 || x.Next() != 0 {
		t.Error("Range, All, Len or Next")
	}
	if x.Same(nil) || x.Same(compact.New()) || x.Copy() != nil {
		t.Error("Same or Copy")
	}
	zero := &compact.Table{}
	same(t, "a zero table", zero, compact.New())
	apply(t, zero, at(0, "a", "1"))
	same(t, "a zero table with a record", zero, applied(t, at(0, "a", "1")))
}
