package offsets_test

import (
	"fmt"
	"slices"
	"testing"

	"towpath/api"
	"towpath/disk"
	"towpath/offsets"
)

// calls are those that write, behind history.
func calls() map[string]func(o *offsets.Offsets) api.Errno {
	return map[string]func(o *offsets.Offsets) api.Errno{
		"Put":                      func(o *offsets.Offsets) api.Errno { return second(o.Put(8, 0, 0, 9, commit(1, 7), commit(2, 7))) },
		"Put to an open one":       func(o *offsets.Offsets) api.Errno { return second(o.Put(5, 0, 1, 9, commit(2, 9))) },
		"Mark that commits":        func(o *offsets.Offsets) api.Errno { return second(o.Mark(5, 0, true, 9)) },
		"Mark that aborts":         func(o *offsets.Offsets) api.Errno { return second(o.Mark(5, 0, false, 9)) },
		"Mark of one that is none": func(o *offsets.Offsets) api.Errno { return second(o.Mark(8, 0, true, 9)) },
		"Clean": func(o *offsets.Offsets) api.Errno {
			n, err := o.Clean(9)
			if err != api.OK && n != 0 || err == api.OK && n == 0 {
				return api.ErrForm // none that the calls return
			}
			return err
		},
	}
}

// history is a log of several segments, with commits that others follow, an aborted one, and one that is open.
func history(t *testing.T) (*disk.Disk, *offsets.Offsets) {
	t.Helper()
	d, o := fresh(t, small)
	commits(t, o, 0, commit(1, 1), commit(2, 2), commit(1, 2))
	puts(t, o, 4, 0, 0, commit(3, 9))
	marks(t, o, 4, 0, false)
	commits(t, o, 3, commit(1, 3))
	puts(t, o, 5, 0, 0, commit(2, 8))
	commits(t, o, 4, commit(1, 4))
	return d, o
}

// cuts lets the power fail within a call, behind each number of changes of the disk, with each beginning of what was not synced. It hands on what the call answered, and the offsets that are found afterwards.
func cuts(t *testing.T, build func() (*disk.Disk, *offsets.Offsets), call func(*offsets.Offsets) api.Errno, check func(what string, err api.Errno, q *offsets.Offsets)) {
	t.Helper()
	for fuse := 0; ; fuse++ {
		d, o := build()
		d.Fuse(fuse)
		err := call(o)
		if err != api.OK && err != api.ErrDown {
			t.Fatalf("a fuse of %d: %d", fuse, err)
		}
		unharmed(o)
		for keep := 0; keep <= unsynced(d); keep++ {
			what := fmt.Sprint("a fuse of ", fuse, ", keeping ", keep)
			check(what, err, found(t, what, d.Crash(keep)))
		}
		if err == api.OK {
			if fuse < 2 {
				t.Errorf("a fuse of %d is enough", fuse)
			}
			return
		}
	}
}

// unsynced is how many bytes of a file may be lost, at most.
func unsynced(d *disk.Disk) int {
	n := 0
	for _, name := range d.Names("") {
		n = max(n, d.Size(name)-d.Kept(name))
	}
	return n
}

// unharmed calls all there is: without power nothing is promised but that no call panics.
func unharmed(o *offsets.Offsets) {
	seen(o)
	o.Put(9, 0, 0, 9, commit(1, 1))
	o.Mark(5, 0, true, 9)
	o.Clean(9)
	seen(o)
}

// found is what is opened behind a crash. Power that fails while it is opened, once more, makes no difference.
func found(t *testing.T, what string, d *disk.Disk) *offsets.Offsets {
	t.Helper()
	q := opened(t, d.Crash(), small)
	for fuse := 0; ; fuse++ {
		e := d.Crash()
		e.Fuse(fuse)
		o, err := offsets.Open(e, "off", small)
		if err == api.OK {
			return q
		}
		want(t, what+", opened without power", err, api.ErrDown)
		if o = opened(t, e.Crash(), small); seen(o) != seen(q) {
			t.Errorf("%s, then a fuse of %d: %s, not %s", what, fuse, seen(o), seen(q))
		}
	}
}

// P14.7: power fails within Put and Mark, in the last segment and in a new one, with and without a Clean ahead: what is found is that with the call or without it, and with it if it was acknowledged; the same call then makes it whole.
func TestChangePower(t *testing.T) {
	for what, call := range calls() {
		for n := range 4 {
			for _, cleaned := range []bool{false, true} {
				build := func() (*disk.Disk, *offsets.Offsets) {
					d, o := history(t)
					if cleaned {
						want(t, "Clean", calls()["Clean"](o), api.OK)
					}
					for i := range n {
						puts(t, o, 6, 0, i, commit(3, int64(i)))
					}
					return d, o
				}
				if what != "Clean" {
					whole(t, fmt.Sprint(what, " behind ", n, " more, cleaned ", cleaned), build, call)
				}
			}
		}
	}
	empty := func() (*disk.Disk, *offsets.Offsets) { return fresh(t, small) }
	whole(t, "the first Put", empty, calls()["Put"])
	whole(t, "the first Mark", empty, calls()["Mark that commits"])
}

func whole(t *testing.T, what string, build func() (*disk.Disk, *offsets.Offsets), call func(*offsets.Offsets) api.Errno) {
	t.Helper()
	_, o := build()
	before, standing := seen(o), o.All()
	want(t, what, call(o), api.OK)
	after := seen(o)
	kept := 0
	cuts(t, build, call, func(how string, err api.Errno, q *offsets.Offsets) {
		t.Helper()
		for _, c := range standing {
			if got, ok := q.Of(c.Part); !ok || got.Offset < c.Offset {
				t.Errorf("%s, %s: %v was effective, then %v, %v", what, how, c, got, ok)
			}
		}
		switch {
		case seen(q) == after:
			kept++
		case seen(q) != before || err == api.OK:
			t.Errorf("%s, %s: %d, then %s, not %s or %s", what, how, err, seen(q), before, after)
		}
		want(t, what+" again, "+how, call(q), api.OK)
		if seen(q) != after {
			t.Errorf("%s again, %s: %s, not %s", what, how, seen(q), after)
		}
	})
	if kept < 2 || after == before {
		t.Errorf("%s was kept %d times: %s, then %s", what, kept, before, after)
	}
}

// P14.7: power fails within Clean: what stands and what waits is the same, in the old log or the new one.
func TestCleanPower(t *testing.T) {
	_, o := history(t)
	all, waiting, old := o.All(), o.Waiting(), len(o.Batches())
	want(t, "Clean", calls()["Clean"](o), api.OK)
	short := len(o.Batches())
	count := map[int]int{}
	cuts(t, func() (*disk.Disk, *offsets.Offsets) { return history(t) }, calls()["Clean"], func(how string, err api.Errno, q *offsets.Offsets) {
		t.Helper()
		n := len(q.Batches())
		count[n]++
		if n != short && (n != old || err == api.OK) {
			t.Errorf("%s: %d, then %d batches of %d or %d", how, err, n, old, short)
		}
		allAre(t, how, q, all...)
		waitingAre(t, how, q, waiting...)
		agrees(t, how, q, q.Batches())
		if again, err := q.Put(5, 0, 0, 9, commit(2, 8)); !again || err != api.OK {
			t.Errorf("%s: the same Put: %v, %d", how, again, err)
		}
		marks(t, q, 5, 0, true)
		allAre(t, how+", then ended", q, commit(1, 4), commit(2, 8))
	})
	if count[old] < 10 || count[short] < 2 {
		t.Errorf("the old and the new log: %v", count)
	}
}

// P14.3: a disk without room, with every number of bytes too few for the call: nothing changes.
func TestFull(t *testing.T) {
	for what, call := range calls() {
		for more := 0; ; more++ {
			d, o := history(t)
			before := seen(o)
			d.Room(d.Used() + more)
			err := call(o)
			if err == api.OK {
				if more < 10 {
					t.Errorf("%s: room for %d is enough", what, more)
				}
				break
			}
			want(t, what, err, api.ErrFull)
			for how, o := range map[string]*offsets.Offsets{"at once": o, "opened again": opened(t, d.Crash(9), small)} {
				if seen(o) != before {
					t.Fatalf("%s without room, %s: %s, not %s", what, how, seen(o), before)
				}
			}
			d.Room(api.MaxDisk)
			want(t, what+" with room again", call(o), api.OK)
			if q := opened(t, d.Crash(), small); seen(q) != seen(o) {
				t.Fatalf("%s with room again: %s, not %s", what, seen(q), seen(o))
			}
		}
	}
}

// P14.3: errors of the arguments, and what is there already, ahead of those of a disk without power.
func TestDown(t *testing.T) {
	for what, call := range calls() {
		d, o := history(t)
		before := seen(o)
		d.Fuse(0)
		want(t, what, call(o), api.ErrDown)
		if q := opened(t, d.Crash(), small); seen(q) != before {
			t.Errorf("%s: %s, not %s", what, seen(q), before)
		}
	}
	d, o := history(t)
	d.Fuse(0)
	want(t, "Put of none", second(o.Put(5, 0, 1, 9)), api.ErrNone)
	want(t, "Put of one that may not be", second(o.Put(5, 0, 1, 9, commit(256, 0))), api.ErrArg)
	want(t, "Put of nobody", second(o.Put(0, 0, 0, 9, commit(1, 1))), api.ErrArg)
	want(t, "Put of another Seq", second(o.Put(5, 0, 7, 9, commit(1, 1))), api.ErrOrder)
	want(t, "Put of a past epoch", second(o.Put(1, 0, 0, 9, commit(1, 1))), api.ErrFenced)
	want(t, "Mark of nobody", second(o.Mark(0, 0, true, 9)), api.ErrArg)
	if again, err := o.Put(5, 0, 0, 9, commit(2, 8)); !again || err != api.OK {
		t.Errorf("the same Put: %v, %d", again, err)
	}
	if again, err := o.Mark(1, 0, true, 9); !again || err != api.OK {
		t.Errorf("the same Mark: %v, %d", again, err)
	}
}

// Two partitions of commits on one disk don't know of each other.
func TestTwo(t *testing.T) {
	d, one := fresh(t, small)
	two, err := offsets.Open(d, "offs", small)
	want(t, "Open of another", err, api.OK)
	commits(t, one, 0, commit(1, 1), commit(1, 2), commit(1, 3))
	commits(t, two, 0, commit(1, 9), commit(2, 9))
	puts(t, two, 4, 0, 0, commit(2, 10))
	if n, err := one.Clean(9); n == 0 || err != api.OK {
		t.Errorf("Clean: %d, %d", n, err)
	}
	c := d.Crash()
	again, err := offsets.Open(c, "offs", small)
	want(t, "Open of another", err, api.OK)
	for what, o := range map[string]*offsets.Offsets{"one": one, "one, opened again": opened(t, c, small)} {
		allAre(t, what, o, commit(1, 3))
		waitingAre(t, what, o)
	}
	for what, o := range map[string]*offsets.Offsets{"the other": two, "the other, opened again": again} {
		allAre(t, what, o, commit(1, 9), commit(2, 9))
		waitingAre(t, what, o, pending(4, 0, commit(2, 10)))
		if l := o.Batches(); len(l) != 5 || !slices.Equal(l[4].L, []api.Record{recorded(commit(2, 10), 9)}) {
			t.Errorf("%s: %v", what, l)
		}
	}
}
