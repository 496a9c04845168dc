package part_test

import (
	"fmt"
	"math/rand"
	"slices"
	"testing"

	"towpath/api"
	"towpath/disk"
	"towpath/part"
	"towpath/rec"
)

// picks: how much of what was not synced lasts, file by file.
var picks = [][]int{nil, {0}, {1}, {9}, {15}, {30}, {1000}, {0, 1000}, {1000, 0}, {3, 0, 20, 1000}}

// cuts lets the power fail within a call, behind each number of changes, with whatever lasts. It hands on what the call answered, and the partition that is found afterwards.
func cuts(t *testing.T, build func() (*disk.Disk, *part.Part), call func(*part.Part) api.Errno, check func(what string, err api.Errno, q *part.Part)) {
	t.Helper()
	for fuse := 0; ; fuse++ {
		down := false
		for _, pick := range picks {
			d, p := build()
			d.Fuse(fuse)
			err := call(p)
			if err != api.OK && err != api.ErrDown {
				t.Fatalf("a fuse of %d: %d", fuse, err)
			}
			down = down || err == api.ErrDown
			unharmed(p)
			c := d.Crash(pick...)
			check(fmt.Sprint("a fuse of ", fuse, ", picks ", pick), err, opened(t, c, small))
			if len(c.Names("p.tmp")) > 0 {
				t.Errorf("a fuse of %d: a file .tmp is left", fuse)
			}
		}
		if !down {
			if fuse < 2 {
				t.Errorf("a fuse of %d is enough", fuse)
			}
			return
		}
	}
}

// unharmed calls all there is: without power nothing is promised but that no call panics.
func unharmed(p *part.Part) {
	seen(p)
	p.Append(plain("z", 0))
	p.Mark(1, 9, true, 0)
	p.Snapshot()
	p.Expire(1)
	p.Compact(0)
	seen(p)
}

// replayed is a partition that has taken these batches one by one, without a snapshot.
func replayed(t *testing.T, l []api.Batch) *part.Part {
	t.Helper()
	_, p := fresh(t, small)
	puts(t, p, l...)
	return p
}

// history is a log of some segments, with transactions that are open, committed and aborted.
func history() []api.Batch {
	return []api.Batch{
		txn(1, 0, 0, 1), plain("a", 0), txn(2, 0, 0, 2), commit(1, 0), plain("a", 1), abort(2, 0), owned(3, 0, 0, 1), txn(1, 1, 0, 1),
	}
}

// P10.8, P10.9: power fails within Append and Mark, with and without a snapshot.
func TestAppendPower(t *testing.T) {
	for _, b := range []api.Batch{
		plain("b", 7), txn(1, 1, 1, 2), owned(3, 0, 1, 1), owned(4, 0, 0, 1), commit(1, 1), abort(1, 1), commit(2, 7),
	} {
		for _, n := range []int{0, 1, 2, 3, 7, 8} {
			for _, snapshot := range []bool{false, true} {
				l := history()[:n]
				if m := newModel(4); !all(m, l, b) {
					continue
				}
				build := func() (*disk.Disk, *part.Part) {
					d, p := fresh(t, small)
					for i, x := range l {
						if snapshot && i == n/2 {
							want(t, "Snapshot", p.Snapshot(), api.OK)
						}
						puts(t, p, x)
					}
					return d, p
				}
				call := func(p *part.Part) api.Errno {
					_, _, err := put(p, b)
					return err
				}
				cuts(t, build, call, func(what string, err api.Errno, q *part.Part) {
					lasts(t, fmt.Sprint(b, " behind ", n, " with a snapshot ", snapshot, ", ", what), l, b, err, q)
				})
			}
		}
	}
}

// all reports whether a model takes all batches and then one more.
func all(m *model, l []api.Batch, b api.Batch) bool {
	for _, x := range l {
		m.put(x)
	}
	_, again, err := m.put(b)
	return !again && err == api.OK
}

// lasts: all that was acknowledged is there, b too if it was, and nothing else; b comes again, and is there once.
func lasts(t *testing.T, what string, l []api.Batch, b api.Batch, err api.Errno, q *part.Part) {
	t.Helper()
	n := len(q.Batches())
	if n != len(l) && n != len(l)+1 || err == api.OK && n != len(l)+1 {
		t.Fatalf("%s: %d, and %d batches are left of %d", what, err, n, len(l))
	}
	whole := append(slices.Clone(l), b)
	same(t, what, q, replayed(t, whole[:n]))
	if n == len(l)+1 && b.Pid == 0 {
		return // nobody knows nobody's batches
	}
	wasThere := n == len(l)+1
	if _, again, err := put(q, b); again != wasThere || err != api.OK {
		t.Errorf("%s: again: %v, %d", what, again, err)
	}
	same(t, what+", then again", q, replayed(t, whole))
}

// P10.8: power fails within Snapshot, with and without an earlier one.
func TestSnapshotPower(t *testing.T) {
	for _, earlier := range []int{-1, 0, 3} {
		build := func() (*disk.Disk, *part.Part) {
			d, p := fresh(t, small)
			for i, b := range history() {
				if i == earlier {
					want(t, "Snapshot", p.Snapshot(), api.OK)
				}
				puts(t, p, b)
			}
			return d, p
		}
		wanted := replayed(t, history())
		cuts(t, build, (*part.Part).Snapshot, func(what string, err api.Errno, q *part.Part) {
			same(t, fmt.Sprint("a snapshot behind that at ", earlier, ", ", what), q, wanted)
		})
	}
}

// P10.5: power fails within Expire: all rows are gone or none, and none with an error.
func TestExpirePower(t *testing.T) {
	for _, earlier := range []bool{false, true} {
		build := func() (*disk.Disk, *part.Part) {
			d, p := fresh(t, small)
			puts(t, p, history()...)
			if earlier {
				want(t, "Snapshot", p.Snapshot(), api.OK)
			}
			return d, p
		}
		_, before := build()
		_, after := build()
		if n, err := after.Expire(99); n != 2 || err != api.OK {
			t.Fatalf("Expire: %d, %d", n, err)
		}
		call := func(p *part.Part) api.Errno {
			n, err := p.Expire(99)
			if err != api.OK && n != 0 {
				t.Errorf("Expire: %d beside %d", n, err)
			}
			return err
		}
		cuts(t, build, call, func(what string, err api.Errno, q *part.Part) {
			wanted := before
			if err == api.OK {
				wanted = after
			}
			same(t, "Expire, "+what, q, wanted)
		})
	}
}

// P10.11: power fails within Compact: the same table, the same from the border on, the same producers.
func TestCompactPower(t *testing.T) {
	l := append(history(), commit(1, 1), plain("b", 0), plain("a", 2), txn(3, 0, 1, 1), plain("a", 3))
	for _, earlier := range []bool{false, true} {
		build := func() (*disk.Disk, *part.Part) {
			d, p := fresh(t, small)
			puts(t, p, l...)
			if earlier {
				if n, err := p.Compact(0); n == 0 || err != api.OK {
					t.Fatalf("Compact: %d, %d", n, err)
				}
				puts(t, p, plain("a", 4), commit(3, 0), plain("b", 1), plain("a", 5))
			}
			return d, p
		}
		d, before := build()
		_, after := build()
		m := newModel(4)
		for _, b := range before.Batches() {
			m.put(b)
		}
		m.next = before.Next()
		border := m.border(bases(d))
		if n, err := after.Compact(0); n == 0 || err != api.OK || border == 0 {
			t.Fatalf("Compact: %d, %d, the border is %d", n, err, border)
		}
		old, _, _ := before.Read(0, 999, true)
		call := func(p *part.Part) api.Errno {
			n, err := p.Compact(0)
			if err != api.OK && n != 0 {
				t.Errorf("Compact: %d beside %d", n, err)
			}
			return err
		}
		cuts(t, build, call, func(what string, err api.Errno, q *part.Part) {
			got, _, _ := q.Read(0, 999, true)
			if !table(t, got).Same(table(t, old)) || !slices.Equal(from(got, border), from(old, border)) {
				t.Errorf("%s: %v, not %v", what, got, old)
			}
			if q.Next() != before.Next() || q.Stable() != before.Stable() || asked(q.Ask) != asked(before.Ask) {
				t.Errorf("%s: Next %d, Stable %d, or Ask", what, q.Next(), q.Stable())
			}
			if s := seen(q); s != seen(after) && (err == api.OK || s != seen(before)) {
				t.Errorf("%s: neither what was nor what was meant: %s", what, s)
			}
		})
	}
}

// P10.8: power fails within Open, which has to cut the log and to remove files.
func TestOpenPower(t *testing.T) {
	d, p := fresh(t, small)
	puts(t, p, history()...)
	want(t, "Snapshot", p.Snapshot(), api.OK)
	names := d.Names("p-")
	d.Append(names[len(names)-1], []byte("torn"))
	d.Append("p-00000000000.new", []byte("torn"))
	d.Append("p.tmp", []byte("torn"))
	for fuse := range 5 {
		for _, pick := range picks {
			c := d.Crash(1000)
			c.Fuse(fuse)
			if _, err := part.Open(c, "p", small); err != api.OK && err != api.ErrDown {
				t.Errorf("Open with a fuse of %d: %d", fuse, err)
			}
			same(t, fmt.Sprint("Open with a fuse of ", fuse), opened(t, c.Crash(pick...), small), p)
		}
	}
}

// All calls by chance, with power that fails within any of them: what is found is a state that the model was in, or was about to be.
func TestPowerMany(t *testing.T) {
	rnd := rand.New(rand.NewSource(7))
	for round := range 60 {
		c := small
		c.Seg = 64 + rnd.Intn(60)
		d, p := fresh(t, c)
		m := newModel(4)
		for step := range 40 {
			what := fmt.Sprint("round ", round, ", step ", step)
			if rnd.Intn(3) == 0 {
				d.Fuse(rnd.Intn(12))
			}
			maybe, err := someCall(rnd, d, p, m)
			if err != api.ErrDown {
				m = maybe[len(maybe)-1]
				holds(t, what, p, m)
			}
			if !d.Gone() {
				d.Fuse(-1)
				continue
			}
			d = d.Crash(rnd.Intn(40)-5, rnd.Intn(3)*rnd.Intn(50), 1000)
			p = opened(t, d, c)
			if err != api.ErrDown {
				maybe = []*model{m}
			}
			snap, _ := d.Read("p.snap")
			found := slices.IndexFunc(maybe, func(x *model) bool { return matches(p, x.crash()) && string(snap) == string(x.file()) })
			if found < 0 {
				t.Fatalf("%s: %v is none of what it may be", what, p.Batches())
			}
			m = maybe[found].crash()
			agrees(t, what, p, m)
			snapIs(t, what, d, m)
		}
	}
}

// someCall does one call, and returns what may be found if the power fails within it, in order: the last one is what it is meant for.
func someCall(rnd *rand.Rand, d *disk.Disk, p *part.Part, m *model) ([]*model, api.Errno) {
	after := m.copy()
	switch rnd.Intn(10) {
	case 0:
		after.snapshot()
		return []*model{m, after}, p.Snapshot()
	case 1:
		time := int64(rnd.Intn(25))
		after.expire(time)
		_, err := p.Expire(time)
		return []*model{m, after}, err
	case 2:
		horizon := int64(rnd.Intn(25))
		written := m.copy()
		if m.border(bases(d)) > 0 {
			written.snapshot()
		}
		after.compact(horizon, bases(d))
		_, err := p.Compact(horizon)
		return []*model{m, written, after}, err
	}
	b := someBatch(rnd, m)
	after.put(b)
	_, _, err := put(p, b)
	return []*model{m, after}, err
}

// P10.9: a producer that sends each batch till it is acknowledged, over crashes and compactions, has each of them there once.
func TestExactlyOnce(t *testing.T) {
	rnd := rand.New(rand.NewSource(8))
	for round := range 30 {
		d, p := fresh(t, small)
		sent := 0
		for epoch := range 6 {
			kind := rnd.Intn(2)
			seq := 0
			for range 1 + rnd.Intn(4) {
				b := api.Batch{Pid: 2, Epoch: epoch, Seq: seq, Kind: kind, Time: 5}
				for range 1 + rnd.Intn(3) {
					b.L = append(b.L, api.Record{Key: fmt.Sprint("k", sent), Value: fmt.Sprint(sent), Time: 5})
					sent++
				}
				seq += len(b.L)
				d, p = sendTill(t, rnd, d, p, b)
			}
			d, p = sendTill(t, rnd, d, p, commit(2, epoch))
		}
		l, _, err := p.Read(0, 9999, true)
		want(t, "Read", err, api.OK)
		if len(l) != sent {
			t.Errorf("round %d: %d records of %d", round, len(l), sent)
		}
		for i, r := range l {
			if r.Key != fmt.Sprint("k", i) {
				t.Fatalf("round %d: record %d is %v", round, i, r)
			}
		}
	}
}

// sendTill sends a batch till it is acknowledged, while the power fails now and then, and once more.
func sendTill(t *testing.T, rnd *rand.Rand, d *disk.Disk, p *part.Part, b api.Batch) (*disk.Disk, *part.Part) {
	t.Helper()
	for acknowledged := 0; acknowledged < 2; {
		d.Fuse(rnd.Intn(8))
		switch _, _, err := put(p, b); err {
		case api.OK:
			acknowledged++
		case api.ErrFenced: // a batch that came again behind its marker: not here
			t.Fatalf("%v: fenced", b)
		}
		switch rnd.Intn(6) {
		case 0:
			p.Compact(0)
		case 1:
			p.Snapshot()
		}
		if d.Gone() {
			d = d.Crash(rnd.Intn(30), 0, 1000)
			p = opened(t, d, small)
		}
		d.Fuse(-1)
	}
	return d, p
}

// P10.8: whatever lasts of one batch, byte by byte, it is there whole or not at all.
func TestEveryByte(t *testing.T) {
	l, b := history(), txn(1, 1, 1, 2)
	b.L[0].Value = "some bytes"
	for n := range 100 {
		d, p := fresh(t, small)
		puts(t, p, l...)
		d.Fuse(1)
		if n%2 == 1 {
			d.Fuse(2) // where a segment begins, the first change is a Sync
		}
		_, _, err := put(p, b)
		lasts(t, fmt.Sprint(n, " bytes"), l, b, err, opened(t, d.Crash(n), small))
	}
	if rec.Size(b) > 80 {
		t.Error("not every byte")
	}
}
