package ledger_test

import (
	"fmt"
	"testing"

	"towpath/api"
	"towpath/disk"
	"towpath/ledger"
)

// cuts lets the power fail within a call, behind each number of changes of the disk, with each beginning of what was not synced. It hands on what the call answered, and the ledger that is found afterwards.
func cuts(t *testing.T, build func() (*disk.Disk, *ledger.Ledger), call func(*ledger.Ledger) api.Errno, check func(what string, err api.Errno, q *ledger.Ledger)) {
	t.Helper()
	for fuse := 0; ; fuse++ {
		d, l := build()
		d.Fuse(fuse)
		err := call(l)
		if err != api.OK && err != api.ErrDown {
			t.Fatalf("a fuse of %d: %d", fuse, err)
		}
		unharmed(l)
		for keep := 0; keep <= unsynced(d); keep++ {
			what := fmt.Sprint("a fuse of ", fuse, ", keeping ", keep)
			q, c := found(t, what, d.Crash(keep))
			check(what, err, q)
			going(t, what, q, c)
		}
		if err == api.OK {
			if fuse < 2 {
				t.Errorf("a fuse of %d is enough", fuse)
			}
			return
		}
	}
}

// unsynced is how many bytes of a file may be lost, at most.
func unsynced(d *disk.Disk) int {
	n := 0
	for _, name := range d.Names("") {
		n = max(n, d.Size(name)-d.Kept(name))
	}
	return n
}

// unharmed calls all there is: without power nothing is promised but that no call panics.
func unharmed(l *ledger.Ledger) {
	seen(l)
	l.Set("z", "1", 0)
	l.Drop("a", 0)
	l.All(0, set("z", "2", 0))
	l.Clean(9)
	seen(l)
	l.Spare()
}

// found is the ledger that is opened behind a crash, and its disk. Power that fails while it is opened, once more, makes no difference.
func found(t *testing.T, what string, d *disk.Disk) (*ledger.Ledger, *disk.Disk) {
	t.Helper()
	c := d.Crash()
	q := opened(t, c, small)
	for fuse := 0; ; fuse++ {
		e := d.Crash()
		e.Fuse(fuse)
		l, err := ledger.Open(e, "x", small)
		if err == api.OK {
			return q, c
		}
		want(t, what+", opened without power", err, api.ErrDown)
		if l = opened(t, e.Crash(), small); seen(l) != seen(q) || l.Spare() != q.Spare() {
			t.Errorf("%s, then a fuse of %d: %s, not %s", what, fuse, seen(l), seen(q))
		}
	}
}

// going: what is found behind a crash goes on like any other ledger.
func going(t *testing.T, what string, q *ledger.Ledger, d *disk.Disk) {
	t.Helper()
	was, there := q.Get("a")
	want(t, what+", then Set", q.Set("new", "1", 3), api.OK)
	if got, ok := q.Get("new"); got != "1" || !ok {
		t.Errorf("%s, then Set: %q, %v", what, got, ok)
	}
	r := opened(t, d.Crash(), small)
	if got, ok := r.Get("a"); seen(r) != seen(q) || r.Spare() != q.Spare() || got != was || ok != there {
		t.Errorf("%s, then Set, opened again: %s, not %s", what, seen(r), seen(q))
	}
	want(t, what+", then Drop", q.Drop("new", 3), api.OK)
}

// P13.5: each change, in the last segment and in a new one, of an empty ledger and of one that was cleaned, is there whole or not at all, and whole if it was acknowledged.
func TestChangePower(t *testing.T) {
	for what, call := range changes() {
		for n := range 5 {
			for _, cleaned := range []bool{false, true} {
				build := func() (*disk.Disk, *ledger.Ledger) {
					d, l := dropped(t)
					for i := range n {
						if cleaned && i == n/2 {
							if _, err := l.Clean(6); err != api.OK {
								t.Fatal("Clean", err)
							}
						}
						alls(t, l, set("b", fmt.Sprint(i), 8))
					}
					return d, l
				}
				if what != "Clean" {
					whole(t, fmt.Sprint(what, " behind ", n, " more, cleaned ", cleaned), build, call)
				}
			}
		}
	}
	empty := func() (*disk.Disk, *ledger.Ledger) { return fresh(t, small) }
	whole(t, "the first Set", empty, changes()["Set"])
	whole(t, "the first All", empty, changes()["All"])
}

// whole: power fails in a call that changes contents.
func whole(t *testing.T, what string, build func() (*disk.Disk, *ledger.Ledger), call func(*ledger.Ledger) api.Errno) {
	t.Helper()
	_, l := build()
	before, spare := seen(l), l.Spare()
	want(t, what, call(l), api.OK)
	after, more := seen(l), l.Spare()
	if after == before {
		t.Fatalf("%s changes nothing: %s", what, after)
	}
	kept := 0
	cuts(t, build, call, func(how string, err api.Errno, q *ledger.Ledger) {
		t.Helper()
		switch {
		case seen(q) == after && q.Spare() == more:
			kept++
		case seen(q) != before || q.Spare() != spare || err == api.OK:
			t.Errorf("%s, %s: %d, then %s, %d, not %s or %s", what, how, err, seen(q), q.Spare(), before, after)
		}
	})
	if kept < 2 {
		t.Errorf("%s was kept %d times", what, kept)
	}
}

// P13.5, P13.6: power fails within Clean: the contents stay, and the log is the old one or the new one.
func TestCleanPower(t *testing.T) {
	for _, earlier := range []bool{false, true} {
		build := func() (*disk.Disk, *ledger.Ledger) {
			d, l := dropped(t)
			if earlier {
				cleans(t, "an earlier one", l, 0, 2)
			}
			alls(t, l, drop("c", 3), set("a", "4", 9), set("c", "2", 9), set("c", "3", 9))
			return d, l
		}
		_, l := build()
		before, spare := seen(l), l.Spare()
		n, err := l.Clean(6)
		if n == 0 || err != api.OK || seen(l) != before || l.Spare() != spare-n {
			t.Fatalf("Clean: %d, %d, then %s, %d, not %s", n, err, seen(l), l.Spare(), before)
		}
		call := func(l *ledger.Ledger) api.Errno {
			m, err := l.Clean(6)
			if err != api.OK && m != 0 || err == api.OK && m != n {
				t.Errorf("Clean: %d beside %d", m, err)
			}
			return err
		}
		old := 0
		cuts(t, build, call, func(how string, err api.Errno, q *ledger.Ledger) {
			t.Helper()
			if q.Spare() == spare && err != api.OK {
				old++
			} else if q.Spare() != spare-n {
				t.Errorf("%s: %d, then Spare %d, not %d or %d", how, err, q.Spare(), spare, spare-n)
			}
			if seen(q) != before {
				t.Errorf("%s: %d, then %s, not %s", how, err, seen(q), before)
			}
		})
		if old < 10 {
			t.Errorf("the old log was found %d times", old)
		}
	}
}
