package ledger_test

import (
	"fmt"
	"math"
	"strings"
	"testing"

	"towpath/api"
	"towpath/disk"
	"towpath/ledger"
)

// dropped is a ledger of three segments, of two batches each: of what is below the last of them, two records are followed by others, and one takes a value away, at time 5.
func dropped(t *testing.T) (*disk.Disk, *ledger.Ledger) {
	t.Helper()
	d, l := fresh(t, small)
	alls(t, l, set("a", "1", 0), set("b", "1", 0), drop("b", 5), set("a", "2", 6), set("c", "1", 7), set("a", "3", 8))
	if n := len(d.Names("x-")); n != 3 {
		t.Fatal(n, "segments")
	}
	return d, l
}

// P13.3, P13.4, P13.6: what goes, at each kind of horizon, once and again; keys and values stay.
func TestClean(t *testing.T) {
	for _, c := range []struct {
		horizon  int64
		n, later int // how many go, and how many go then at the greatest horizon
	}{
		{math.MinInt64, 2, 1},
		{-1, 2, 1},
		{0, 2, 1},
		{4, 2, 1},
		{5, 2, 1},
		{6, 3, 0},
		{api.MaxTime, 3, 0},
		{math.MaxInt64, 3, 0},
	} {
		d, l := dropped(t)
		before, spare := seen(l), l.Spare()
		if l.Len() != 2 || spare != 4 {
			t.Fatalf("Len %d, Spare %d", l.Len(), spare)
		}
		check := func(what string, l *ledger.Ledger) {
			t.Helper()
			if seen(l) != before || l.Spare() != spare {
				t.Errorf("%s: %s, %d, not %s, %d", what, seen(l), l.Spare(), before, spare)
			}
		}
		what := fmt.Sprint("horizon ", c.horizon)
		cleans(t, what, l, c.horizon, c.n)
		spare -= c.n
		check(what, l)
		check(what+", opened again", opened(t, d.Crash(), small))
		cleans(t, what+", twice", l, c.horizon, 0)
		check(what+", twice", l)
		l = opened(t, d, small)
		cleans(t, what+", then all", l, math.MaxInt64, c.later)
		spare -= c.later
		check(what+", then all", l)
		check(what+", then all, opened again", opened(t, d.Crash(), small))
		want(t, "Drop of what is dropped", l.Drop("b", 9), api.ErrNone)
		want(t, "Drop of what was cleaned", l.Drop("a", 9), api.OK)
		want(t, "Set of what is dropped", l.Set("b", "2", 9), api.OK)
		if got := pairs(opened(t, d.Crash(), small).Range("", "", 9)); got != "7:b=2@9 4:c=1@7 " {
			t.Errorf("%s, then changed: %s", what, got)
		}
	}
}

// P13.4: a ledger of which nothing can go.
func TestCleanNothing(t *testing.T) {
	_, l := fresh(t, small)
	cleans(t, "empty", l, 9, 0)
	alls(t, l, set("a", "1", 0))
	cleans(t, "one record", l, 9, 0)
	alls(t, l, drop("a", 0))
	cleans(t, "one segment", l, 9, 0)
	d, l := fresh(t, small)
	for i := range 9 {
		want(t, "Set", l.Set(fmt.Sprint("k", i), "v", 0), api.OK)
	}
	before := seen(l)
	for range 2 {
		cleans(t, "nothing to spare", l, 9, 0)
		l = opened(t, d, small)
	}
	if seen(l) != before || l.Len() != 9 || l.Spare() != 0 {
		t.Errorf("nothing to spare: %s, %d, not %s", seen(l), l.Spare(), before)
	}
	d, l = fresh(t, wide)
	alls(t, l, set("a", "1", 0), set("a", "2", 0), drop("a", 0), set("b", "1", 0), set("b", "2", 0))
	before = content(d)
	cleans(t, "all in the last segment", l, 9, 0)
	if content(d) != before || l.Spare() != 4 {
		t.Errorf("all in the last segment: %s, not %s", content(d), before)
	}
}

// changes are the calls that write, with the effect that they have on the contents of dropped.
func changes() map[string]func(l *ledger.Ledger) api.Errno {
	return map[string]func(l *ledger.Ledger) api.Errno{
		"Set":  func(l *ledger.Ledger) api.Errno { return l.Set("d", "new", 9) },
		"Drop": func(l *ledger.Ledger) api.Errno { return l.Drop("a", 9) },
		"All": func(l *ledger.Ledger) api.Errno {
			return l.All(9, drop("a", 9), set("aa", "new", 9), set("c", "2", 9), drop("aa", 9), set("d", "3", 9))
		},
		"All of a key that is there": func(l *ledger.Ledger) api.Errno { return l.All(9, set("a", "4", 9)) },
		"Clean": func(l *ledger.Ledger) api.Errno {
			n, err := l.Clean(6)
			if err != api.OK && n != 0 || err == api.OK && n != 3 {
				return api.ErrForm // none that the calls return
			}
			return err
		},
	}
}

// P13.2, P13.4, P13.7: a disk without room, with every number of bytes too few for the call.
func TestFull(t *testing.T) {
	for what, call := range changes() {
		for more := 0; ; more++ {
			d, l := dropped(t)
			before, spare := seen(l), l.Spare()
			d.Room(d.Used() + more)
			err := call(l)
			if err == api.OK {
				if more < 10 {
					t.Errorf("%s: room for %d is enough", what, more)
				}
				break
			}
			want(t, what, err, api.ErrFull)
			for how, l := range map[string]*ledger.Ledger{"at once": l, "opened again": opened(t, d.Crash(9), small)} {
				if seen(l) != before || l.Spare() != spare {
					t.Fatalf("%s without room, %s: %s, %d, not %s, %d", what, how, seen(l), l.Spare(), before, spare)
				}
			}
			d.Room(api.MaxDisk)
			want(t, what+" with room again", call(l), api.OK)
			if q := opened(t, d.Crash(), small); seen(q) != seen(l) || q.Spare() != l.Spare() {
				t.Fatalf("%s with room again: %s, not %s", what, seen(q), seen(l))
			}
		}
	}
}

// P13.7: a disk with as many files as there may be.
func TestFullOfFiles(t *testing.T) {
	d, l := dropped(t)
	for i := 0; len(d.Names("")) < api.MaxFiles; i++ {
		want(t, "Append", d.Append(fmt.Sprint("other", i)), api.OK)
	}
	before, spare := seen(l), l.Spare()
	for what, call := range changes() {
		want(t, what, call(l), api.ErrFull)
		if seen(l) != before || l.Spare() != spare {
			t.Errorf("%s: %s, not %s", what, seen(l), before)
		}
	}
	want(t, "Drop of none", l.Drop("none", 0), api.ErrNone)
	want(t, "All without records", l.All(0), api.ErrArg)
}

// P13.2, P13.7: errors of the arguments and of the key are told ahead of those of a disk without power.
func TestDown(t *testing.T) {
	for what, call := range changes() {
		d, l := dropped(t)
		before := seen(opened(t, d.Crash(), small))
		d.Fuse(0)
		want(t, what, call(l), api.ErrDown)
		if q := opened(t, d.Crash(), small); seen(q) != before {
			t.Errorf("%s: %s, not %s", what, seen(q), before)
		}
	}
	d, l := dropped(t)
	d.Fuse(0)
	want(t, "Drop of none", l.Drop("none", -1), api.ErrNone)
	want(t, "Drop of what is dropped", l.Drop("b", 0), api.ErrNone)
	want(t, "All without records", l.All(0), api.ErrArg)
	want(t, "All of 65", l.All(0, some(65)...), api.ErrLong)
	want(t, "Set of a long value", l.Set("a", tooLong, 0), api.ErrLong)
	want(t, "Set at -1", l.Set("a", "1", -1), api.ErrArg)
	want(t, "Drop at -1", l.Drop("a", -1), api.ErrArg)
	d, l = fresh(t, small)
	alls(t, l, set("a", "1", 0))
	d.Fuse(0)
	cleans(t, "nothing to clean", l, 9, 0)
}

// P13.7: two ledgers of one disk don't know of each other, whatever befalls either.
func TestTwo(t *testing.T) {
	d := newDisk(t)
	one := opened(t, d, small)
	two, err := ledger.Open(d, "xx", small)
	want(t, "Open of another", err, api.OK)
	m, n := newModel(), newModel()
	for i := range 12 {
		a, b := set(fmt.Sprint("k", i%3), fmt.Sprint(i), 1), set(fmt.Sprint("k", i%2), fmt.Sprint("two", i), 2)
		if i%4 == 3 {
			b = drop(b.Key, 2)
		}
		want(t, "All", one.All(1, a), api.OK)
		want(t, "All of the other", two.All(2, b, b), api.OK)
		m.all(a)
		n.all(b, b)
		agrees(t, "one", one, m)
		agrees(t, "the other", two, n)
	}
	gone, err := one.Clean(9)
	want(t, "Clean", err, api.OK)
	m.count -= gone
	files := strings.Join(d.Names("xx"), " ")
	agrees(t, "the other behind a Clean of the one", two, n)
	gone, err = two.Clean(9)
	want(t, "Clean of the other", err, api.OK)
	n.count -= gone
	if gone == 0 || strings.Join(d.Names("xx"), " ") == files {
		t.Errorf("Clean of the other: %d, files %s", gone, files)
	}
	c := d.Crash()
	two, err = ledger.Open(c, "xx", small)
	want(t, "Open of another", err, api.OK)
	agrees(t, "one, opened again", opened(t, c, small), m)
	agrees(t, "the other, opened again", two, n)
	c.Room(c.Used())
	want(t, "Set on a full disk", two.Set("k", "v", 0), api.ErrFull)
	agrees(t, "the other, full", two, n)
}
