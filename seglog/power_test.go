package seglog_test

import (
	"fmt"
	"math"
	"math/rand"
	"slices"
	"testing"

	"towpath/api"
	"towpath/disk"
	"towpath/rec"
	"towpath/seglog"
)

func tryOpen(d *disk.Disk) (*seglog.Log, api.Errno) { return seglog.Open(d, "p", small) }

// history is what was done to a log, and what of it must last.
type history struct {
	l      *seglog.Log
	acked  []api.Batch // appended, as they are in the log
	synced int         // of these, at the last Sync or Roll that returned OK
}

func (h *history) append(bs ...api.Batch) api.Errno {
	offset, err := h.l.Append(bs...)
	if err != api.OK {
		return err
	}
	for _, b := range bs {
		b.Base = offset
		h.acked = append(h.acked, b)
		offset = rec.Next(b)
	}
	return err
}

func (h *history) durable(err api.Errno) api.Errno {
	if err == api.OK {
		h.synced = len(h.acked)
	}
	return err
}

// call is one of a history.
type call struct {
	what string
	do   func(h *history) api.Errno
}

func appends(bs ...api.Batch) call {
	return call{fmt.Sprintf("Append of %d", len(bs)), func(h *history) api.Errno { return h.append(bs...) }}
}

func calls() []call {
	sync := call{"Sync", func(h *history) api.Errno { return h.durable(h.l.Sync()) }}
	roll := call{"Roll", func(h *history) api.Errno { return h.durable(h.l.Roll()) }}
	trim := func(offset int64) call {
		return call{fmt.Sprintf("Trim(%d)", offset), func(h *history) api.Errno { _, err := h.l.Trim(offset); return err }}
	}
	x := plain("a", "x")
	return []call{
		appends(x), appends(x), appends(x), sync, appends(x), appends(x, x), appends(x), roll,
		appends(x, x, x), appends(at(0, 3)), trim(4), appends(x), trim(100), appends(x), roll, trim(100), sync, appends(x),
	}
}

// picks: what may survive of the files' bytes.
func picks() [][]int {
	l := [][]int{nil, {math.MaxInt}, {0, math.MaxInt}, {math.MaxInt, 0}, {0, 0, math.MaxInt}}
	for _, n := range []int{1, 10, 11, 12, 20, 21, 31, 32, 33, 42} {
		l = append(l, []int{n}, []int{n, 0}, []int{0, n})
	}
	return l
}

// run makes a history up to the first error, with power for so many changes, and returns what failed, if anything did.
func run(t *testing.T, d *disk.Disk, fuse int, l []call) (*history, string) {
	h := &history{l: opened(t, d, small)}
	d.Fuse(fuse)
	for i, c := range l {
		before := shown(h.l)
		first := h.l.First()
		err := c.do(h)
		if err == api.OK {
			continue
		}
		want(t, c.what, err, api.ErrDown)
		if h.l.First() == first && shown(h.l) != before { // Trim alone may have changed something
			t.Errorf("%s failed, and changed %s to %s", c.what, before, shown(h.l))
		}
		down := shown(h.l)
		for _, later := range l[i:] {
			idle := later.what[0] == 'T' || len(h.l.Segments()) == 0 && later.what == "Sync" // there may be nothing to do
			if err := later.do(h); err == api.OK && !idle || shown(h.l) != down {
				t.Errorf("%s without power: %d, %s, not %s", later.what, err, shown(h.l), down)
			}
		}
		return h, c.what
	}
	return h, ""
}

// lasts: P6.7, of the log that is opened behind a crash.
func (h *history) lasts(t *testing.T, what string, x *seglog.Log) {
	t.Helper()
	var all []api.Batch
	must := 0
	for i, b := range h.acked {
		if b.Base < x.First() {
			continue
		}
		all = append(all, b)
		if i < h.synced {
			must++
		}
	}
	got := x.All()
	if x.First() != h.l.First() || len(got) < must || len(got) > len(all) || !sameBatches(got, all[:len(got)]) {
		t.Errorf("%s: %s of %s; %d must last", what, shown(x), shown(h.l), must)
	}
	next := x.First()
	if len(got) > 0 {
		next = rec.Next(got[len(got)-1])
	}
	if h.synced > 0 {
		next = max(next, rec.Next(h.acked[h.synced-1]))
	}
	if x.Next() != next {
		t.Errorf("%s: Next is %d, not %d", what, x.Next(), next)
	}
}

// P6.7, P6.10: power that fails at each change of a history, with all picks behind it; and again while the log is opened.
func TestPower(t *testing.T) {
	rnd := rand.New(rand.NewSource(2))
	l := calls()
	for fuse := 0; ; fuse++ {
		d := newDisk(t)
		h, failed := run(t, d, fuse, l)
		for _, p := range picks() {
			c := d.Crash(p...)
			before := c.Crash()
			x := opened(t, c, small)
			what := fmt.Sprintf("Fuse(%d), %s, Crash(%v)", fuse, failed, p)
			h.lasts(t, what, x)
			failing(t, rnd, before, shown(x))
			stays(t, c, shown(x))
			if offset, err := x.Append(plain("a", "x")); err != api.OK || offset != x.Next()-1 {
				t.Errorf("%s, then Append: %d, %d", what, offset, err)
			}
		}
		if failed == "" || t.Failed() {
			return
		}
	}
}

// P6.4, P6.10: power that fails at each change of Replace leaves the one or the other, and the log itself as it was.
func TestReplacePower(t *testing.T) {
	rnd := rand.New(rand.NewSource(1))
	for _, upto := range []int64{2, 4, 6} {
		for _, bs := range [][]api.Batch{nil, {at(0, 1)}, {at(1, 1)}, {{Base: 0, L: plain("a", "longer than what was there, by far, so that it fills more than a segment").L}}} {
			_, intended := filled(t, 7)
			want(t, "Replace", intended.Replace(upto, bs...), api.OK)
			for fuse := 0; ; fuse++ {
				d, l := filled(t, 7)
				l.Sync()
				before := shown(l)
				d.Fuse(fuse)
				err := l.Replace(upto, bs...)
				if err == api.OK {
					if shown(l) != shown(intended) {
						t.Errorf("Replace(%d) with %d changes: %s", upto, fuse, shown(l))
					}
					break
				}
				if err != api.ErrDown || shown(l) != before {
					t.Errorf("Replace(%d), Fuse(%d): %d, %s", upto, fuse, err, shown(l))
				}
				for _, p := range picks() {
					c := d.Crash(p...)
					torn := c.Crash()
					x := opened(t, c, small)
					if got := shown(x); got != before && got != shown(intended) {
						t.Errorf("Replace(%d), Fuse(%d), Crash(%v): %s, neither %s nor %s", upto, fuse, p, got, before, shown(intended))
					}
					failing(t, rnd, torn, shown(x))
					stays(t, c, shown(x))
				}
			}
		}
	}
}

// A log that has been trimmed gives out no offset again, even if nothing behind what was trimmed was durable.
func TestTrimKeepsNext(t *testing.T) {
	for _, p := range picks() {
		d, l := filled(t, 1)
		want(t, "Roll", l.Roll(), api.OK)
		if n, err := l.Trim(1); n != 1 || err != api.OK {
			t.Error("Trim", n, err)
		}
		x := opened(t, d.Crash(p...), small)
		if x.First() != 1 || x.Next() != 1 {
			t.Errorf("Crash(%v): %s", p, shown(x))
		}
	}
	for fuse := 0; ; fuse++ {
		d, l := filled(t, 5) // the segment 4 is not durable
		l.Append(plain("b", "y"))
		d.Fuse(fuse)
		n, err := l.Trim(4)
		numbers(t, "Segments", l.Segments(), []int64{0, 2, 4}[n:]...)
		for _, p := range picks() {
			x := opened(t, d.Crash(p...), small)
			if x.First() != l.First() || x.Next() < 4 {
				t.Errorf("Fuse(%d), Crash(%v): %s", fuse, p, shown(x))
			}
		}
		if err == api.OK {
			return
		}
		want(t, "Trim", err, api.ErrDown)
	}
}

// fits makes a call on logs of disks with more and more room, until it does not answer ErrFull.
func fits(t *testing.T, what string, do func(l *seglog.Log) api.Errno) {
	t.Helper()
	for room := 0; ; room++ {
		d, l := filled(t, 4)
		l.Sync()
		before, files := shown(l), content(d, "")
		d.Room(min(d.Used()+room, api.MaxDisk))
		err := do(l)
		if err == api.OK {
			if room == 0 || shown(l) == before {
				t.Errorf("%s with room for %d: %s", what, room, shown(l))
			}
			if got := shown(opened(t, d.Crash(math.MaxInt), small)); got != shown(l) {
				t.Errorf("%s with room for %d: opened again: %s, not %s", what, room, got, shown(l))
			}
			return
		}
		if err != api.ErrFull || shown(l) != before || content(d, "") != files {
			t.Fatalf("%s with room for %d: %d, %s, not %s", what, room, err, shown(l), before)
		}
		d.Room(1 << 16)
		want(t, what+" with room again", do(l), api.OK)
	}
}

// P6.2, P6.3, P6.4, P6.10: disks that are full, by one byte and by many.
func TestFull(t *testing.T) {
	short := func(l *seglog.Log) api.Errno { _, err := l.Append(plain("", "")); return err }
	several := func(l *seglog.Log) api.Errno { _, err := l.Append(plain("a", "x"), plain("b", "y")); return err }
	fits(t, "Append", short)
	fits(t, "Append of several", several)
	fits(t, "Roll", func(l *seglog.Log) api.Errno { return l.Roll() })
	fits(t, "Replace", func(l *seglog.Log) api.Errno { return l.Replace(2, at(1, 1)) })
	fits(t, "Replace by nothing", func(l *seglog.Log) api.Errno { return l.Replace(2) })
}

// P6.2: no more files than a disk holds.
func TestFiles(t *testing.T) {
	d, l := filled(t, 2)
	for i := range api.MaxFiles - 1 {
		forged(d, fmt.Sprint("x", i), nil)
	}
	before, files := shown(l), content(d, "")
	if offset, err := l.Append(plain("a", "x")); offset != 0 || err != api.ErrFull {
		t.Error("Append", offset, err)
	}
	want(t, "Roll", l.Roll(), api.ErrFull)
	if shown(l) != before || content(d, "") != files {
		t.Errorf("%s, not %s", shown(l), before)
	}
	d.Remove("x0")
	want(t, "Roll with a file less", l.Roll(), api.OK)
	want(t, "Replace", l.Replace(2), api.ErrFull)
	numbers(t, "Segments", l.Segments(), 0, 2)
	d.Remove("x1")
	want(t, "Replace with a file less", l.Replace(2), api.OK)
	numbers(t, "Segments", l.Segments(), 0, 2)
	if len(l.All()) != 0 || l.Next() != 2 {
		t.Error("replaced by nothing", shown(l))
	}
}

// P6.7, P6.10, P6.11: long lives: calls at random, power that fails at random, crashes, and on with what is left.
func TestLives(t *testing.T) {
	rnd := rand.New(rand.NewSource(12))
	for range 100 {
		d := newDisk(t)
		l, m := opened(t, d, small), &model{Config: small}
		synced := 0 // batches of the model that must last
		for range 40 {
			if rnd.Intn(4) == 0 {
				d.Fuse(rnd.Intn(5))
			}
			states, err := attempt(t, rnd, l, m, &synced)
			if t.Failed() {
				return
			}
			if err != api.ErrDown && !d.Gone() {
				holds(t, "alive", l, m)
				continue
			}
			d = d.Crash(rnd.Intn(60), rnd.Intn(60), pick(rnd, 0, math.MaxInt))
			x := opened(t, d, small)
			m = survivor(t, x, states, synced)
			l, synced = x, len(m.all())
			holds(t, "behind a crash", x, m)
			if got, want := content(d, "p-"), m.content("p"); got != want {
				t.Errorf("behind a crash: the files are %s, not %s", got, want)
			}
		}
	}
}

// attempt makes one call. It returns the states that a crash may leave, but for batches that were not durable.
func attempt(t *testing.T, rnd *rand.Rand, l *seglog.Log, m *model, synced *int) ([]*model, api.Errno) {
	t.Helper()
	old := m.copy()
	var err api.Errno
	switch rnd.Intn(8) {
	case 0:
		if err = l.Sync(); err == api.OK {
			*synced = len(m.all())
		}
	case 1:
		before := len(m.all())
		if err = l.Roll(); err == api.OK {
			m.roll()
			*synced = before
		}
	case 2:
		offset := m.first() + int64(rnd.Intn(8))
		var n int
		n, err = l.Trim(offset)
		before := len(m.all())
		for range n {
			m.trim(m.segs[1].base)
		}
		*synced = max(*synced-before+len(m.all()), 0)
		old = m
	case 3:
		upto, bs := somePlan(rnd, m)
		next := m.copy()
		werr := next.replace(upto, bs...)
		if err = l.Replace(upto, bs...); err == api.ErrDown {
			return []*model{old, next}, err // what must last of next is told by survivor
		}
		want(t, "Replace", err, werr)
		if err == api.OK {
			*synced = max(*synced-len(m.all())+len(next.all()), len(next.segs[0].l))
			*m = *next
		}
	default:
		bs := someBatches(rnd)
		if _, err = l.Append(bs...); err == api.OK {
			m.append(bs...)
		}
	}
	if err != api.OK && err != api.ErrNone && err != api.ErrArg && err != api.ErrDown {
		t.Errorf("%d of %v", err, m.bases())
	}
	return []*model{m, old}, err
}

// survivor returns the model of a log that was opened behind a crash: one of the states, without some of the batches at its end.
func survivor(t *testing.T, x *seglog.Log, states []*model, synced int) *model {
	t.Helper()
	got := x.All()
	for i, s := range states {
		all := s.all()
		must := synced
		if i > 0 && len(s.segs) > 0 && s.segs[0].end != states[0].segs[0].end { // what replaced the first ones is durable; of the others, those that were are
			must = max(synced-len(states[0].all())+len(all), len(s.segs[0].l))
		}
		if len(got) < must || len(got) > len(all) || !sameBatches(got, all[:len(got)]) || x.First() != s.first() {
			continue
		}
		m := s.copy()
		n := len(got)
		for j := range m.segs {
			m.segs[j].l = m.segs[j].l[:min(n, len(m.segs[j].l))]
			n -= len(m.segs[j].l)
		}
		m.segs = m.segs[:min(len(x.Segments()), len(m.segs))]
		if slices.Equal(x.Segments(), m.bases()) { // two states may have the same batches
			return m
		}
	}
	t.Fatalf("%s is none of %v, %v; %d must last", shown(x), states[0].all(), states[len(states)-1].all(), synced)
	return nil
}
