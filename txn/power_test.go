package txn_test

import (
	"fmt"
	"math/rand"
	"slices"
	"strings"
	"testing"

	"towpath/api"
	"towpath/disk"
	"towpath/txn"
)

// change is a call that writes a record, of a row in some state. Its answer is OK, or ErrBusy where the chapter says so.
type change struct {
	what  string
	state string
	epoch int
	call  func(x *txn.Coord) api.Errno
}

func inited(x *txn.Coord, id string, who, limit, now int64) api.Errno {
	pid, epoch, err := x.Init(id, who, limit, now)
	if err != api.OK && (pid != 0 || epoch != 0) {
		return api.ErrForm // none that the calls return
	}
	return err
}

func inits(id string, who, limit int64) func(x *txn.Coord) api.Errno {
	return func(x *txn.Coord) api.Errno { return inited(x, id, who, limit, 130) }
}

func adds(epoch int, parts ...int) func(x *txn.Coord) api.Errno {
	return func(x *txn.Coord) api.Errno { return x.Add(1, epoch, 130, parts...) }
}

func ends(epoch int, commit bool) func(x *txn.Coord) api.Errno {
	return func(x *txn.Coord) api.Errno {
		n, err := x.End(1, epoch, commit, 130)
		if err != api.OK && n != 0 {
			return api.ErrForm
		}
		return err
	}
}

// marks marks all but the last one of the partitions, which can't fail, and then the last one.
func marks(epoch int, parts ...int) func(x *txn.Coord) api.Errno {
	return func(x *txn.Coord) api.Errno {
		for _, part := range parts[1:] {
			if err := x.Marked(1, epoch, part, 130); err != api.OK {
				return api.ErrForm
			}
		}
		return x.Marked(1, epoch, parts[0], 130)
	}
}

func ticks(x *txn.Coord) api.Errno {
	n, err := x.Tick(130)
	if (n == 1) != (err == api.OK) {
		return api.ErrForm
	}
	return err
}

func changes() []change {
	return []change{
		{"Init of another id", "Idle", 2, inits("b", 5, 100)},
		{"Init of the same instance", "Idle", 2, inits("a", 5, 7)},
		{"Init of a later one", "Idle", 2, inits("a", 6, 100)},
		{"Init of a later one", "Open", 2, inits("a", 6, 100)},
		{"Init of the same instance", "Open", 2, inits("a", 5, 100)},
		{"Init of a later one", "Committing", 2, inits("a", 6, 100)},
		{"Init of the same instance", "Committing", 2, inits("a", 5, 7)},
		{"Init of a later one", "Aborting", 2, inits("a", 6, 100)},
		{"Init of a later one", "Aborting, by its owner", 2, inits("a", 6, 100)},
		{"Init of a later one", "Fencing", 2, inits("a", 6, 100)},
		{"Add", "Idle", 2, adds(2, 1, 0)},
		{"Add of more", "Open", 2, adds(2, 2)},
		{"End, commit", "Open", 2, ends(2, true)},
		{"End, abort", "Open", 2, ends(2, false)},
		{"Tick", "Open", 2, ticks},
		{"the last marker", "Committing", 2, marks(2, 0, 2)},
		{"the last marker", "Committing, to be fenced", 2, marks(2, 1)},
		{"the last marker", "Aborting", 4, marks(4, 1, 2)},
		{"the last marker", "Aborting, to be fenced", 2, marks(2, 2)},
		{"the last marker", "Aborting, by its owner", 2, marks(2, 2, 0, 1)},
		{"the last marker", "Aborting, both", 2, marks(2, 0)},
		{"the last marker", "Fencing", 2, marks(2, 0, 1, 2)},
		{"the last marker of the last epoch", "Committing", 5, marks(5, 0, 2)},
		{"the last marker of the last epoch", "Aborting, both", 5, marks(5, 0)},
		{"the last marker of the last epoch", "Fencing", 5, marks(5, 1, 2, 0)},
	}
}

// unchanged reports whether a coordinator is as it was before a call that has failed, but for the markers that were marked within it ahead of the last one.
func (c change) unchanged(x *txn.Coord, before string) bool {
	if strings.HasPrefix(c.what, "the last marker") {
		return rowsOf(seen(x)) == rowsOf(before)
	}
	return seen(x) == before
}

// build is a coordinator with the row of the state between two others.
func (c change) build(t *testing.T) (*disk.Disk, *txn.Coord) {
	t.Helper()
	r := states()[c.state]
	r.Epoch = c.epoch
	before, after := states()["Committing"], states()["Retired"]
	before.Pid, before.Id, after.Pid, after.Id = 3, "0", 5, "z"
	w := newTwin(t, three, before, r, after)
	return w.d, w.Coord
}

// again is what is seen of the coordinator that is started on what is left.
func again(t *testing.T, d *disk.Disk) string {
	t.Helper()
	return seen(started(t, d, three))
}

// Without room, with every number of bytes too few: the error is told, and nothing has changed; with room again the call is made as if nothing had been.
func TestFull(t *testing.T) {
	for _, c := range changes() {
		_, x := c.build(t)
		answer := c.call(x)
		if answer != api.OK && answer != api.ErrBusy {
			t.Fatalf("%s, %s: %d", c.what, c.state, answer)
		}
		after := seen(x)
		for more := 0; ; more++ {
			d, x := c.build(t)
			before := again(t, d)
			d.Room(d.Used() + more)
			err := c.call(x)
			if err == answer {
				if more < 10 {
					t.Errorf("%s, %s: room for %d is enough", c.what, c.state, more)
				}
				break
			}
			want(t, c.what+", "+c.state, err, api.ErrFull)
			if !c.unchanged(x, before) || again(t, d.Crash(9)) != before {
				t.Fatalf("%s, %s, without room: %s, not %s", c.what, c.state, seen(x), before)
			}
			d.Room(api.MaxDisk)
			want(t, c.what+" with room again", c.call(x), answer)
			if seen(x) != after {
				t.Fatalf("%s, %s, with room again: %s, not %s", c.what, c.state, seen(x), after)
			}
		}
	}
}

// The one marker that is left is still owed when the row could not be completed.
func TestLastMarkerStays(t *testing.T) {
	for name, spoil := range map[string]func(d *disk.Disk){
		"full": func(d *disk.Disk) { d.Room(d.Used()) },
		"down": func(d *disk.Disk) { d.Fuse(0) },
	} {
		w := newTwin(t, three, states()["Committing"])
		w.marked(t, 1, 2, 0, 33)
		before := seen(w.Coord)
		spoil(w.d)
		for range 3 {
			err := w.Marked(1, 2, 2, 33)
			if err != api.ErrFull && err != api.ErrDown || seen(w.Coord) != before || len(w.Marks()) != 1 {
				t.Errorf("%s: %d, %s, not %s", name, err, seen(w.Coord), before)
			}
		}
		want(t, name+", a marker that is not owed", w.Marked(1, 2, 0, 33), api.OK)
		want(t, name+", a marker of another epoch", w.Marked(1, 1, 2, 33), api.OK)
	}
}

// An Add that the ledger does not take leaves the partitions that were there in their order, however many there are.
func TestAddKeepsParts(t *testing.T) {
	for n := 1; n < 20; n++ {
		w := newTwin(t, txn.Config{Parts: 21, Rows: 1, Epochs: 1})
		w.init(t, "a", 0, 1, 0)
		for part := n; part > 0; part-- {
			w.add(t, 1, 0, 0, part)
		}
		w.d.Room(w.d.Used())
		want(t, "Add without room", w.Add(1, 0, 0, 20, 0), api.ErrFull)
		w.same(t, "behind an Add without room")
		w.d.Room(api.MaxDisk)
		w.add(t, 1, 0, 0, 20, 0)
	}
}

// The errors of the arguments and of the row are told ahead of those of the ledger, and what writes nothing needs no power.
func TestDown(t *testing.T) {
	for _, c := range changes() {
		d, x := c.build(t)
		before := again(t, d)
		d.Fuse(0)
		want(t, c.what+", "+c.state, c.call(x), api.ErrDown)
		if !c.unchanged(x, before) || again(t, d.Crash()) != before {
			t.Errorf("%s, %s, without power: %s, not %s", c.what, c.state, seen(x), before)
		}
	}
	d, x := changes()[0].build(t)
	d.Fuse(0)
	before := seen(x)
	want(t, "Init at -1", inited(x, "a", 5, 100, -1), api.ErrArg)
	want(t, "Init of no id", inited(x, "", 5, 100, 0), api.ErrArg)
	want(t, "Init of an instance that has passed", inited(x, "a", 4, 100, 0), api.ErrFenced)
	want(t, "Init of what is retired", inited(x, "z", 5, 100, 0), api.ErrExhausted)
	want(t, "Add of none", x.Add(9, 2, 0, 1), api.ErrNone)
	want(t, "Add of no parts", x.Add(1, 2, 0), api.ErrArg)
	want(t, "Add of what passed", x.Add(1, 1, 0, 1), api.ErrFenced)
	want(t, "Add of what is to come", x.Add(1, 3, 0, 1), api.ErrState)
	want(t, "Add while others end", x.Add(3, 2, 0, 1), api.ErrBusy)
	if n, err := x.End(1, 2, true, 0); n != 2 || err != api.OK {
		t.Errorf("End of nothing: %d, %d", n, err)
	}
	if n, err := x.End(3, 2, true, 0); n != 0 || err != api.ErrBusy {
		t.Errorf("End once more: %d, %d", n, err)
	}
	if n, err := x.Tick(last); n != 0 || err != api.OK {
		t.Errorf("Tick of nothing: %d, %d", n, err)
	}
	if seen(x) != before {
		t.Errorf("%s, not %s", seen(x), before)
	}
}

// unsynced is how many bytes of a file may be lost, at most.
func unsynced(d *disk.Disk) int {
	n := 0
	for _, name := range d.Names("") {
		n = max(n, d.Size(name)-d.Kept(name))
	}
	return n
}

// P15.11: power that fails within a call, behind each change of the disk, with each beginning of what was not synced: the row is as before or as after it, and as after it if the call returned.
func TestPower(t *testing.T) {
	for _, c := range changes() {
		d, x := c.build(t)
		before := again(t, d)
		answer := c.call(x)
		after := again(t, d)
		kept := 0
		for fuse := 0; ; fuse++ {
			d, x := c.build(t)
			d.Fuse(fuse)
			err := c.call(x)
			if err != answer {
				want(t, c.what+", "+c.state, err, api.ErrDown)
				if !c.unchanged(x, before) {
					t.Fatalf("%s, %s, a fuse of %d: %s, not %s", c.what, c.state, fuse, seen(x), before)
				}
			}
			for keep := 0; keep <= unsynced(d); keep++ {
				e := d.Crash(keep)
				got := again(t, e)
				switch {
				case got == after:
					kept++
				case got != before || err == answer:
					t.Fatalf("%s, %s, a fuse of %d, keeping %d: %d, then %s, not %s or %s", c.what, c.state, fuse, keep, err, got, before, after)
				}
				goesOn(t, e)
			}
			if err == answer {
				if fuse < 2 {
					t.Errorf("%s, %s: a fuse of %d is enough", c.what, c.state, fuse)
				}
				break
			}
		}
		if kept < 2 {
			t.Errorf("%s, %s: kept %d times", c.what, c.state, kept)
		}
	}
}

// goesOn: the coordinator behind a crash has all markers marked, and gives the producer to a later instance.
func goesOn(t *testing.T, d *disk.Disk) {
	t.Helper()
	x := started(t, d.Crash(), three)
	_, _, err := x.Init("a", 9, 100, 200)
	for range 3 {
		for _, m := range x.Marks() {
			want(t, "Marked", x.Marked(m.Pid, m.Epoch, m.Part, 200), api.OK)
		}
		if err == api.ErrBusy {
			_, _, err = x.Init("a", 9, 100, 200)
		}
	}
	if r, _ := x.Row(1); err != api.OK && (err != api.ErrExhausted || r.State != txn.Retired) {
		t.Errorf("behind a crash: %d, %+v", err, r)
	}
}

// P15.5: a Tick of several rows that the ledger can't take all: those ahead of it have changed, and their number is told.
func TestTickPartly(t *testing.T) {
	build := func() (*disk.Disk, *txn.Coord) {
		var rows []row
		for i := range 4 {
			r := states()["Open"]
			r.Pid, r.Id = int64(i+1), string(rune('d'-i))
			rows = append(rows, r)
		}
		w := newTwin(t, three, rows...)
		return w.d, w.Coord
	}
	aborting := func(x *txn.Coord) int {
		n := 0
		for i, r := range x.Rows() {
			if r.State == txn.Aborting {
				n++
				if n != i+1 {
					t.Error("not by increasing Pids:", x.Rows())
				}
			}
		}
		if len(x.Marks()) != n {
			t.Errorf("%d rows, marks %v", n, x.Marks())
		}
		return n
	}
	for name, spoil := range map[string]func(d *disk.Disk, n int){
		"full": func(d *disk.Disk, n int) { d.Room(d.Used() + n) },
		"down": func(d *disk.Disk, n int) { d.Fuse(n) },
	} {
		told := map[int]bool{}
		for n := 0; len(told) < 5; n++ {
			d, x := build()
			spoil(d, n)
			got, err := x.Tick(130)
			if err == api.OK && got != 4 || err != api.OK && (err != map[string]api.Errno{"full": api.ErrFull, "down": api.ErrDown}[name] || got > 3) {
				t.Errorf("%s, %d: %d, %d", name, n, got, err)
			}
			if there := aborting(x); there != got {
				t.Errorf("%s, %d: %d, not %d", name, n, there, got)
			}
			for keep := range unsynced(d) + 1 {
				if there := aborting(started(t, d.Crash(keep), three)); there != got && (there != got+1 || err != api.ErrDown) {
					t.Errorf("%s, %d, started again: %d, not %d", name, n, there, got)
				}
			}
			told[got] = true
			if n > 9999 {
				t.Fatal(name, told)
			}
		}
	}
}

// P15.2 to P15.6: any calls, beside the model, with starts in between.
func TestMany(t *testing.T) {
	for seed := range int64(150) {
		rnd := rand.New(rand.NewSource(seed))
		c := txn.Config{Parts: 1 + rnd.Intn(4), Rows: 1 + rnd.Intn(4), Epochs: rnd.Intn(9)}
		w := newTwin(t, c)
		for now := int64(0); now < 120; now++ {
			w.step(t, rnd, now)
			if t.Failed() {
				t.Fatal("seed", seed)
			}
		}
	}
}

// step is any call, most often one that may be.
func (w *twin) step(t *testing.T, rnd *rand.Rand, now int64) {
	t.Helper()
	if rnd.Intn(40) == 0 {
		now = []int64{-1, 0, last, last + 1}[rnd.Intn(4)]
	}
	pid, epoch := int64(rnd.Intn(5)), 0
	if r, ok := w.Row(pid); ok {
		epoch = r.Epoch + []int{0, 0, 0, 0, 0, 0, -1, -1, 1, -2}[rnd.Intn(10)]
	}
	switch rnd.Intn(8) {
	case 0:
		w.init(t, fmt.Sprint(rnd.Intn(5)), int64(rnd.Intn(6))+now/20, int64(rnd.Intn(30)), now)
	case 1, 2:
		var parts []int
		for range rnd.Intn(3) {
			parts = append(parts, rnd.Intn(w.m.c.Parts+1)-rnd.Intn(30)/29)
		}
		w.add(t, pid, epoch, now, parts...)
	case 3:
		w.end(t, pid, epoch, rnd.Intn(2) == 0, now)
	case 4, 5, 6:
		for range 1 + rnd.Intn(4) {
			if l := w.Marks(); len(l) > 0 {
				m := l[rnd.Intn(len(l))]
				w.marked(t, m.Pid, m.Epoch-rnd.Intn(20)/19, m.Part, now)
			}
		}
		w.marked(t, pid, epoch, rnd.Intn(5), now)
	case 7:
		if rnd.Intn(3) == 0 {
			w.crash(t, rnd.Intn(40))
		}
		w.tick(t, now)
	}
}

// P15.7 to P15.10: whatever is called, wherever power fails, and whenever the coordinator is started again.
func TestConsequences(t *testing.T) {
	for seed := range int64(200) {
		l := &lives{rnd: rand.New(rand.NewSource(seed)), d: newDisk(t), kinds: map[key]bool{}, ended: map[key]bool{}, inited: map[int64]int{}}
		l.c = txn.Config{Parts: 1 + l.rnd.Intn(3), Rows: 3, Epochs: 3 + l.rnd.Intn(30)}
		for now := int64(0); now < 150 && !t.Failed(); now++ {
			l.step(t, now)
		}
		l.termination(t)
		if t.Failed() {
			t.Fatal("seed", seed)
		}
	}
}

type key struct {
	pid   int64
	epoch int
}

// lives are those of a coordinator, one behind the other.
type lives struct {
	rnd    *rand.Rand
	c      txn.Config
	d      *disk.Disk
	x      *txn.Coord
	kinds  map[key]bool  // of the markers that were ever owed
	ended  map[key]bool  // commits whose End returned OK
	inited map[int64]int // the greatest epoch that an Init returned
}

func (l *lives) step(t *testing.T, now int64) {
	t.Helper()
	if l.x == nil || l.rnd.Intn(12) == 0 {
		l.d = l.d.Crash(l.rnd.Intn(50))
		l.x = started(t, l.d, l.c)
		if l.rnd.Intn(2) == 0 {
			l.d.Fuse(l.rnd.Intn(30)) // some time it goes down
		}
		l.look(t)
	}
	pid := int64(1 + l.rnd.Intn(3))
	r, _ := l.x.Row(pid)
	switch l.rnd.Intn(7) {
	case 0:
		if p, epoch, err := l.x.Init(fmt.Sprint(pid), r.Who+int64(l.rnd.Intn(3)-1), 1+int64(l.rnd.Intn(30)), now); err == api.OK {
			if epoch < l.inited[p] {
				t.Errorf("Init: epoch %d behind %d", epoch, l.inited[p])
			}
			l.inited[p] = epoch
		}
	case 1, 2:
		l.x.Add(pid, r.Epoch, now, l.rnd.Intn(l.c.Parts))
	case 3:
		commit := l.rnd.Intn(3) > 0
		epoch := r.Epoch - l.rnd.Intn(2)
		if n, err := l.x.End(pid, epoch, commit, now); err == api.OK && commit && (n > epoch || r.State == txn.Retired) {
			l.ended[key{pid, epoch}] = true
		}
	case 4, 5:
		if ms := l.x.Marks(); len(ms) > 0 {
			for range 1 + l.rnd.Intn(3) {
				m := ms[l.rnd.Intn(len(ms))]
				l.x.Marked(m.Pid, m.Epoch, m.Part, now)
			}
		}
	case 6:
		l.x.Tick(now)
	}
	l.fenced(t, now)
	l.look(t)
}

// fenced: P15.9.
func (l *lives) fenced(t *testing.T, now int64) {
	t.Helper()
	for pid, epoch := range l.inited {
		lesser := epoch - 1 - l.rnd.Intn(3)
		before := seen(l.x)
		_, err := l.x.End(pid, lesser, l.rnd.Intn(2) == 0, now)
		if e := l.x.Add(pid, lesser, now, 0); e != api.ErrFenced || err != api.ErrFenced || seen(l.x) != before {
			t.Errorf("epoch %d behind %d: %d, %d", lesser, epoch, e, err)
		}
	}
}

// look: P15.7 and P15.8.
func (l *lives) look(t *testing.T) {
	t.Helper()
	for _, m := range l.x.Marks() {
		k := key{m.Pid, m.Epoch}
		if kind, ok := l.kinds[k]; ok && kind != m.Commit {
			t.Errorf("%v: markers of both kinds", k)
		}
		l.kinds[k] = m.Commit
	}
	for k := range l.ended {
		if !l.kinds[k] {
			t.Errorf("%v: has ended by a commit, but its markers were none", k)
		}
	}
}

// termination: P15.10.
func (l *lives) termination(t *testing.T) {
	t.Helper()
	x := started(t, l.d.Crash(), l.c)
	for range 3 {
		for _, m := range x.Marks() {
			want(t, "Marked", x.Marked(m.Pid, m.Epoch, m.Part, 200), api.OK)
		}
	}
	for _, r := range x.Rows() {
		if !slices.Contains([]int{txn.Idle, txn.Open, txn.Retired}, r.State) || len(x.Marks()) != 0 {
			t.Errorf("behind three rounds: %+v, %v", r, x.Marks())
		}
	}
}
