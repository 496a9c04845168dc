package offsets_test

import (
	"encoding/binary"
	"fmt"
	"maps"
	"math"
	"regexp"
	"slices"
	"strconv"
	"strings"
	"testing"

	"towpath/api"
	"towpath/disk"
	"towpath/offsets"
	"towpath/part"
	"towpath/rec"
	"towpath/seglog"
)

// The calls keep the signatures that the chapter lists.
var (
	_ func(offsets.Commit, int64) (api.Record, api.Errno)                                 = offsets.Record
	_ func(api.Record) (offsets.Commit, api.Errno)                                        = offsets.Parse
	_ func(*disk.Disk, string, part.Config) (*offsets.Offsets, api.Errno)                 = offsets.Open
	_ func(*offsets.Offsets, int64, int, int, int64, ...offsets.Commit) (bool, api.Errno) = (*offsets.Offsets).Put
	_ func(*offsets.Offsets, int64, int, bool, int64) (bool, api.Errno)                   = (*offsets.Offsets).Mark
	_ func(*offsets.Offsets, int64) (int, api.Errno)                                      = (*offsets.Offsets).Clean
	_ func(*offsets.Offsets, int) (offsets.Commit, bool)                                  = (*offsets.Offsets).Of
	_ func(*offsets.Offsets) []offsets.Commit                                             = (*offsets.Offsets).All
	_ func(*offsets.Offsets) []offsets.Pending                                            = (*offsets.Offsets).Waiting
	_ func(*offsets.Offsets) []api.Batch                                                  = (*offsets.Offsets).Batches
	_ func(*offsets.Offsets) []rec.At                                                     = (*offsets.Offsets).Committed
	_ struct {
		Part       int
		Offset     int64
		Member     int
		Generation int
	} = offsets.Commit{}
	_ struct {
		Pid   int64
		Epoch int
		offsets.Commit
	} = offsets.Pending{}
)

const lastGeneration = 1<<31 - 1

// small makes segments of about two batches, of which there can be many; wide makes one, of which nothing can be cleaned.
var (
	small = part.Config{Config: seglog.Config{Seg: 64, Gap: 9}, Producers: 8}
	wide  = part.Config{Config: seglog.Config{Seg: api.MaxDisk, Gap: 1 << 16}, Producers: 8}
)

func newDisk(t *testing.T) *disk.Disk {
	t.Helper()
	d, err := disk.New(api.MaxDisk)
	if err != api.OK {
		t.Fatal("disk.New", err)
	}
	return d
}

func opened(t *testing.T, d *disk.Disk, c part.Config) *offsets.Offsets {
	t.Helper()
	o, err := offsets.Open(d, "off", c)
	if err != api.OK || o == nil {
		t.Fatalf("Open: %v, %d", o, err)
	}
	return o
}

func fresh(t *testing.T, c part.Config) (*disk.Disk, *offsets.Offsets) {
	t.Helper()
	d := newDisk(t)
	return d, opened(t, d, c)
}

func want(t *testing.T, what string, got, err api.Errno) {
	t.Helper()
	if got != err {
		t.Errorf("%s: %d, not %d", what, got, err)
	}
}

func commit(part int, offset int64) offsets.Commit {
	return offsets.Commit{Part: part, Offset: offset, Member: 2, Generation: 5}
}

func pending(pid int64, epoch int, c offsets.Commit) offsets.Pending {
	return offsets.Pending{Pid: pid, Epoch: epoch, Commit: c}
}

// recorded is the record of a commit, by the library's numbers.
func recorded(c offsets.Commit, time int64) api.Record {
	var b []byte
	for _, n := range []uint64{uint64(c.Offset), uint64(c.Member), uint64(c.Generation)} {
		b = binary.AppendUvarint(b, n)
	}
	return api.Record{Key: fmt.Sprintf("o%03d", c.Part), Value: string(b), Time: time}
}

var keyForm = regexp.MustCompile(`^o[0-9]{3}$`)

// parsed says once more of which commit r is the record: it reads the value by the library's numbers, and takes only their shortest form.
func parsed(r api.Record) (offsets.Commit, bool) {
	if r.Gone || !keyForm.MatchString(r.Key) || len(r.Key) != 4 {
		return offsets.Commit{}, false
	}
	n, _ := strconv.Atoi(r.Key[1:])
	var numbers []uint64
	rest := []byte(r.Value)
	for range 3 {
		v, size := binary.Uvarint(rest)
		if size < 1 || size > 1 && rest[size-1] == 0 {
			return offsets.Commit{}, false
		}
		numbers, rest = append(numbers, v), rest[size:]
	}
	if len(rest) > 0 || n > 255 || numbers[0] > api.MaxOffset || numbers[1] > 64 || numbers[2] > lastGeneration {
		return offsets.Commit{}, false
	}
	return offsets.Commit{Part: n, Offset: int64(numbers[0]), Member: int(numbers[1]), Generation: int(numbers[2])}, true
}

// batch is what a Put appends.
func batch(pid int64, epoch, seq int, time int64, cs ...offsets.Commit) api.Batch {
	b := api.Batch{Pid: pid, Epoch: epoch, Seq: seq, Kind: api.Part, Time: time}
	for _, c := range cs {
		b.L = append(b.L, recorded(c, time))
	}
	return b
}

// puts is a Put that is taken for a new one.
func puts(t *testing.T, o *offsets.Offsets, pid int64, epoch, seq int, cs ...offsets.Commit) {
	t.Helper()
	if again, err := o.Put(pid, epoch, seq, 9, cs...); again || err != api.OK {
		t.Fatalf("Put(%d, %d, %d, %v): %v, %d", pid, epoch, seq, cs, again, err)
	}
}

func marks(t *testing.T, o *offsets.Offsets, pid int64, epoch int, commit bool) {
	t.Helper()
	if again, err := o.Mark(pid, epoch, commit, 9); again || err != api.OK {
		t.Fatalf("Mark(%d, %d, %v): %v, %d", pid, epoch, commit, again, err)
	}
}

// commits are Puts of one commit each, each in a transaction of its own, of producer 1, that is ended; the epochs begin at one.
func commits(t *testing.T, o *offsets.Offsets, epoch int, cs ...offsets.Commit) {
	t.Helper()
	for i, c := range cs {
		puts(t, o, 1, epoch+i, 0, c)
		marks(t, o, 1, epoch+i, true)
	}
}

// allAre holds All, and Of for each Part, against what stands.
func allAre(t *testing.T, what string, o *offsets.Offsets, want ...offsets.Commit) {
	t.Helper()
	if got := o.All(); !slices.Equal(got, want) {
		t.Errorf("%s: All: %v, not %v", what, got, want)
	}
	of := map[int]offsets.Commit{}
	for _, c := range want {
		of[c.Part] = c
	}
	for _, n := range slices.Concat(edges, slices.Collect(maps.Keys(of))) {
		c, there := of[n]
		if got, ok := o.Of(n); got != c || ok != there {
			t.Errorf("%s: Of(%d): %v, %v, not %v, %v", what, n, got, ok, c, there)
		}
	}
}

// edges are Parts that there are and such that there can't be.
var edges = []int{math.MinInt, -1, 0, 1, 2, 7, 8, 99, 100, 255, 256, 999, 1000, 1007, math.MaxInt}

func waitingAre(t *testing.T, what string, o *offsets.Offsets, want ...offsets.Pending) {
	t.Helper()
	if got := o.Waiting(); !slices.Equal(got, want) {
		t.Errorf("%s: Waiting: %v, not %v", what, got, want)
	}
}

// content tells the files of a disk.
func content(d *disk.Disk) string {
	var s strings.Builder
	for _, name := range d.Names("") {
		b, _ := d.Read(name)
		fmt.Fprintf(&s, "%s=%x/%d ", name, b, d.Kept(name))
	}
	return s.String()
}

// seen is all that a call can tell of offsets.
func seen(o *offsets.Offsets) string {
	s := fmt.Sprint(o.All(), o.Waiting(), o.Batches(), o.Committed())
	for _, n := range edges {
		c, ok := o.Of(n)
		s += fmt.Sprint(n, c, ok)
	}
	return s
}

func isMarker(b api.Batch) bool { return b.Kind == 2 || b.Kind == 3 }

// fate is the kind of the first marker of a batch's transaction behind it (P8.5); 0: it is open.
func fate(l []api.Batch, i int) int {
	for _, c := range l[i:] {
		if isMarker(c) && c.Pid == l[i].Pid && c.Epoch == l[i].Epoch {
			return c.Kind
		}
	}
	return 0
}

// view is what batches come to.
type view struct {
	committed []rec.At
	all       []offsets.Commit
	waiting   []offsets.Pending
}

func viewed(l []api.Batch) view {
	var v view
	last := map[int]offsets.Commit{}
	stable := true // no transaction is open so far
	for i, b := range l {
		end := fate(l, i)
		open := b.Kind == api.Part && end == 0
		stable = stable && !open
		for _, r := range rec.Flat(b) {
			c, ok := parsed(r.Record)
			if open && ok {
				v.waiting = append(v.waiting, pending(b.Pid, b.Epoch, c))
			}
			if !stable || b.Kind == api.Part && end != api.Commit {
				continue
			}
			v.committed = append(v.committed, r)
			if ok {
				last[c.Part] = c
			}
		}
	}
	for _, n := range slices.Sorted(maps.Keys(last)) {
		v.all = append(v.all, last[n])
	}
	return v
}

// agrees holds offsets against what the batches come to.
func agrees(t *testing.T, what string, o *offsets.Offsets, l []api.Batch) {
	t.Helper()
	v := viewed(l)
	allAre(t, what, o, v.all...)
	waitingAre(t, what, o, v.waiting...)
	if got := o.Batches(); !slices.EqualFunc(got, l, rec.Same) {
		t.Errorf("%s: Batches: %v, not %v", what, got, l)
	}
	if got := o.Committed(); !slices.Equal(got, v.committed) {
		t.Errorf("%s: Committed: %v, not %v", what, got, v.committed)
	}
}

// twin is offsets beside a partition that is given what the chapter says that offsets give their own: their disks have to be alike.
type twin struct {
	*offsets.Offsets
	d, e *disk.Disk
	p    *part.Part
	c    part.Config
}

func newTwin(t *testing.T, c part.Config) *twin {
	t.Helper()
	w := &twin{d: newDisk(t), e: newDisk(t), c: c}
	w.open(t)
	return w
}

func (w *twin) open(t *testing.T) {
	t.Helper()
	w.Offsets = opened(t, w.d, w.c)
	w.p = partition(t, w.e, w.c)
}

func partition(t *testing.T, d *disk.Disk, c part.Config) *part.Part {
	t.Helper()
	p, err := part.Open(d, "off", c)
	if err != api.OK {
		t.Fatal("part.Open", err)
	}
	return p
}

// crash opens both again, on what is left.
func (w *twin) crash(t *testing.T, picks ...int) {
	t.Helper()
	w.d, w.e = w.d.Crash(picks...), w.e.Crash(picks...)
	w.open(t)
}

// foreign appends a batch to both that Put would not append, and opens them again.
func (w *twin) foreign(t *testing.T, b api.Batch) api.Errno {
	t.Helper()
	_, _, err := partition(t, w.d, w.c).Append(b)
	_, _, e := w.p.Append(b)
	want(t, "Append", err, e)
	w.open(t)
	w.same(t, fmt.Sprint("foreign ", b))
	return err
}

// same holds the two against each other, and the offsets against the batches.
func (w *twin) same(t *testing.T, what string) {
	t.Helper()
	if a, b := content(w.d), content(w.e); a != b {
		t.Errorf("%s: files %s, not %s", what, a, b)
	}
	agrees(t, what, w.Offsets, w.p.Batches())
}

// put holds a Put against what the partition says of its batch; valid is whether its commits may be.
func (w *twin) put(t *testing.T, pid int64, epoch, seq int, time int64, cs ...offsets.Commit) (bool, api.Errno) {
	t.Helper()
	what := fmt.Sprintf("Put(%d, %d, %d, %d, %v)", pid, epoch, seq, time, cs)
	again, err := w.Put(pid, epoch, seq, time, cs...)
	wantAgain, wantErr := false, api.OK
	switch {
	case len(cs) == 0:
		wantErr = api.ErrNone
	case time < 0 || time > api.MaxTime || slices.ContainsFunc(cs, wrong):
		wantErr = api.ErrArg
	default:
		_, wantAgain, wantErr = w.p.Append(batch(pid, epoch, seq, time, cs...))
	}
	if again != wantAgain || err != wantErr {
		t.Errorf("%s: %v, %d, not %v, %d", what, again, err, wantAgain, wantErr)
	}
	w.same(t, what)
	return again, err
}

func wrong(c offsets.Commit) bool {
	return c.Part < 0 || c.Part > 255 || c.Offset < 0 || c.Offset > api.MaxOffset || c.Member < 0 || c.Member > 64 || c.Generation < 0 || c.Generation > lastGeneration
}

func (w *twin) mark(t *testing.T, pid int64, epoch int, commit bool, time int64) (bool, api.Errno) {
	t.Helper()
	what := fmt.Sprintf("Mark(%d, %d, %v, %d)", pid, epoch, commit, time)
	again, err := w.Mark(pid, epoch, commit, time)
	if _, a, e := w.p.Mark(pid, epoch, commit, time); again != a || err != e {
		t.Errorf("%s: %v, %d, not %v, %d", what, again, err, a, e)
	}
	w.same(t, what)
	return again, err
}

// clean returns how many records went.
func (w *twin) clean(t *testing.T, horizon int64) int {
	t.Helper()
	what := fmt.Sprintf("Clean(%d)", horizon)
	n, err := w.Clean(horizon)
	if m, e := w.p.Compact(horizon); n != m || err != e {
		t.Errorf("%s: %d, %d, not %d, %d", what, n, err, m, e)
	}
	w.same(t, what)
	return n
}
