package txn_test

import (
	"encoding/binary"
	"fmt"
	"slices"
	"strings"
	"testing"

	"towpath/api"
	"towpath/disk"
	"towpath/ledger"
	"towpath/part"
	"towpath/seglog"
	"towpath/txn"
)

// The calls keep the signatures that the chapter lists.
var (
	_ func(*ledger.Ledger, txn.Config) (*txn.Coord, api.Errno)                          = txn.Start
	_ func(x *txn.Coord, id string, who, limit, now int64) (int64, int, api.Errno)      = (*txn.Coord).Init
	_ func(x *txn.Coord, pid int64, epoch int, now int64, parts ...int) api.Errno       = (*txn.Coord).Add
	_ func(x *txn.Coord, pid int64, epoch int, commit bool, now int64) (int, api.Errno) = (*txn.Coord).End
	_ func(x *txn.Coord, pid int64, epoch int, part int, now int64) api.Errno           = (*txn.Coord).Marked
	_ func(*txn.Coord, int64) (int, api.Errno)                                          = (*txn.Coord).Tick
	_ func(*txn.Coord) []txn.Mark                                                       = (*txn.Coord).Marks
	_ func(*txn.Coord, int64) (txn.Row, bool)                                           = (*txn.Coord).Row
	_ func(*txn.Coord) []txn.Row                                                        = (*txn.Coord).Rows
	_ func(*txn.Coord, int64, int) bool                                                 = (*txn.Coord).Decided
	_ [6]int                                                                            = [6]int{txn.Idle: 0, txn.Open: 1, txn.Committing: 2, txn.Aborting: 3, txn.Fencing: 4, txn.Retired: 5}
	_ struct{ Parts, Rows, Epochs int }                                                 = txn.Config{}
	_ struct {
		Pid    int64
		Epoch  int
		Part   int
		Commit bool
	} = txn.Mark{}
)

// small makes segments of a batch or two.
var small = part.Config{Config: seglog.Config{Seg: 64, Gap: 9}, Producers: 1}

// three is for three partitions and four rows; 5 is the last epoch.
var three = txn.Config{Parts: 3, Rows: 4, Epochs: 5}

func newDisk(t *testing.T) *disk.Disk {
	t.Helper()
	d, err := disk.New(api.MaxDisk)
	if err != api.OK {
		t.Fatal("disk.New", err)
	}
	return d
}

func opened(t *testing.T, d *disk.Disk) *ledger.Ledger {
	t.Helper()
	l, err := ledger.Open(d, "x", small)
	if err != api.OK {
		t.Fatal("ledger.Open", err)
	}
	return l
}

func started(t *testing.T, d *disk.Disk, c txn.Config) *txn.Coord {
	t.Helper()
	x, err := txn.Start(opened(t, d), c)
	if err != api.OK || x == nil {
		t.Fatalf("Start: %v, %d", x, err)
	}
	return x
}

func want(t *testing.T, what string, got, err api.Errno) {
	t.Helper()
	if got != err {
		t.Errorf("%s: %d, not %d", what, got, err)
	}
}

// row is one with what its record has beside it, and with what it owes.
type row struct {
	txn.Row
	owner, fence bool
	owed         []int
}

// body is the encoding of numbers, by the library.
func body(l ...int64) string {
	var b []byte
	for _, n := range l {
		b = binary.AppendUvarint(b, uint64(n))
	}
	return string(b)
}

func bit(on bool) string {
	if on {
		return "\x01"
	}
	return "\x00"
}

// value is that of a row's record.
func (r row) value() string {
	s := body(r.Pid, int64(r.Epoch), r.Who, int64(r.State), r.Since, r.Limit, int64(r.Fate)) + bit(r.owner) + bit(r.fence) + body(int64(len(r.Parts)))
	for _, p := range r.Parts {
		s += body(int64(p))
	}
	return s
}

// seen is all that the calls tell of a coordinator.
func seen(x *txn.Coord) string {
	var s strings.Builder
	for _, r := range x.Rows() {
		fmt.Fprintf(&s, "%+v ", r)
		if one, ok := x.Row(r.Pid); !ok || fmt.Sprint(one) != fmt.Sprint(r) {
			fmt.Fprintf(&s, "but Row says %+v, %v ", one, ok)
		}
		for epoch := r.Epoch - 3; epoch <= r.Epoch+2; epoch++ {
			if x.Decided(r.Pid, epoch) {
				fmt.Fprintf(&s, "decided %d ", epoch)
			}
		}
	}
	return s.String() + fmt.Sprintf("marks %v", x.Marks())
}

// rowsOf is what was seen, but for the markers.
func rowsOf(seen string) string {
	rows, _, _ := strings.Cut(seen, "marks")
	return rows
}

// model says once more what a coordinator is. Its rows stand in the order of their Pids.
type model struct {
	c    txn.Config
	rows []row
}

func (m *model) at(pid int64) int {
	return slices.IndexFunc(m.rows, func(r row) bool { return r.Pid == pid })
}

func (m *model) all() []int {
	var l []int
	for i := range m.c.Parts {
		l = append(l, i)
	}
	return l
}

func (m *model) copy() *model {
	return &model{c: m.c, rows: slices.Clone(m.rows)}
}

// seen is what seen says of a coordinator like it.
func (m *model) seen() string {
	var s strings.Builder
	marks := []txn.Mark{}
	for _, r := range m.rows {
		fmt.Fprintf(&s, "%+v ", r.Row)
		for epoch := r.Epoch - 3; epoch <= r.Epoch+2; epoch++ {
			before := r.Epoch - 1
			if r.State == txn.Retired {
				before = r.Epoch
			}
			if r.State == txn.Committing && epoch == r.Epoch || r.Fate == 1 && epoch == before {
				fmt.Fprintf(&s, "decided %d ", epoch)
			}
		}
		for _, p := range r.owed {
			marks = append(marks, txn.Mark{Pid: r.Pid, Epoch: r.Epoch, Part: p, Commit: r.State == txn.Committing})
		}
	}
	return s.String() + fmt.Sprintf("marks %v", marks)
}

// restarted is the model behind a Start: all is owed again.
func (m *model) restarted() *model {
	n := m.copy()
	for i := range n.rows {
		n.rows[i] = n.rows[i].enter()
	}
	return n
}

// enter is a row that owes all of its Parts, if it is in a state that owes any.
func (r row) enter() row {
	r.owed = nil
	if r.State == txn.Committing || r.State == txn.Aborting || r.State == txn.Fencing {
		r.owed = slices.Clone(r.Parts)
	}
	return r
}

func badTime(now int64) bool { return now < 0 || now > api.MaxTime }

// init answers what Init does, and the row that it makes, if any.
func (m *model) init(id string, who, limit, now int64) (int64, int, api.Errno, *row) {
	if badTime(now) || id == "" || len(id) > 24 || badTime(who) || limit == 0 || badTime(limit) {
		return 0, 0, api.ErrArg, nil
	}
	i := slices.IndexFunc(m.rows, func(r row) bool { return r.Id == id })
	if i < 0 {
		if len(m.rows) >= m.c.Rows {
			return 0, 0, api.ErrFull, nil
		}
		pid := int64(1)
		if n := len(m.rows); n > 0 {
			pid = m.rows[n-1].Pid + 1
		}
		if pid > api.MaxPid {
			return 0, 0, api.ErrExhausted, nil
		}
		return pid, 0, api.OK, &row{Row: txn.Row{Id: id, Pid: pid, Who: who, Limit: limit}}
	}
	r := m.rows[i]
	if r.State == txn.Retired {
		return 0, 0, api.ErrExhausted, nil
	}
	if who < r.Who {
		return 0, 0, api.ErrFenced, nil
	}
	later := who > r.Who
	r.Who, r.Limit = who, limit
	if r.State == txn.Idle && !later {
		r.Fate = 0
		return r.Pid, r.Epoch, api.OK, &r
	}
	switch r.State {
	case txn.Idle:
		r.State, r.Parts = txn.Fencing, m.all()
		r = r.enter()
	case txn.Open:
		r.State, r.Parts = txn.Aborting, m.all()
		r = r.enter()
	case txn.Committing, txn.Aborting:
		if later {
			r.fence = true
		}
	}
	return 0, 0, api.ErrBusy, &r
}

func (m *model) add(pid int64, epoch int, now int64, parts ...int) (api.Errno, *row) {
	if badTime(now) {
		return api.ErrArg, nil
	}
	i := m.at(pid)
	if i < 0 {
		return api.ErrNone, nil
	}
	r := m.rows[i]
	if len(parts) == 0 || slices.Min(parts) < 0 || slices.Max(parts) >= m.c.Parts {
		return api.ErrArg, nil
	}
	if epoch < r.Epoch {
		return api.ErrFenced, nil
	}
	if r.State == txn.Retired {
		return api.ErrExhausted, nil
	}
	if epoch > r.Epoch {
		return api.ErrState, nil
	}
	if r.State != txn.Idle && r.State != txn.Open {
		return api.ErrBusy, nil
	}
	if r.State == txn.Idle {
		r.State, r.Since = txn.Open, now
	}
	all := slices.Concat(r.Parts, parts)
	r.Parts = nil
	for p := range m.c.Parts {
		if slices.Contains(all, p) {
			r.Parts = append(r.Parts, p)
		}
	}
	return api.OK, &r
}

func (m *model) end(pid int64, epoch int, commit bool, now int64) (int, api.Errno, *row) {
	if badTime(now) {
		return 0, api.ErrArg, nil
	}
	i := m.at(pid)
	if i < 0 {
		return 0, api.ErrNone, nil
	}
	r := m.rows[i]
	told := r.Fate == 1 && commit || r.Fate == 2 && !commit
	switch {
	case r.State == txn.Retired && told && epoch == r.Epoch:
		return epoch, api.OK, nil
	case r.State != txn.Retired && told && epoch == r.Epoch-1:
		return r.Epoch, api.OK, nil
	case epoch < r.Epoch:
		return 0, api.ErrFenced, nil
	case r.State == txn.Retired:
		return 0, api.ErrExhausted, nil
	case epoch > r.Epoch:
		return 0, api.ErrState, nil
	}
	switch r.State {
	case txn.Idle:
		return r.Epoch, api.OK, nil
	case txn.Open:
		r.State, r.owner = txn.Aborting, true
		if commit {
			r.State, r.owner = txn.Committing, false
		}
		r = r.enter()
		return 0, api.ErrBusy, &r
	case txn.Committing:
		if !commit {
			return 0, api.ErrState, nil
		}
	}
	return 0, api.ErrBusy, nil
}

func (m *model) marked(pid int64, epoch, part int, now int64) (api.Errno, *row) {
	if badTime(now) {
		return api.ErrArg, nil
	}
	i := m.at(pid)
	if i < 0 {
		return api.ErrNone, nil
	}
	r := m.rows[i]
	if epoch != r.Epoch || !slices.Contains(r.owed, part) {
		return api.OK, nil
	}
	r.owed = slices.DeleteFunc(slices.Clone(r.owed), func(p int) bool { return p == part })
	if len(r.owed) > 0 {
		return api.OK, &r
	}
	fates := map[bool]int{true: 2, false: 3}
	r.Fate = fates[r.owner]
	if r.State == txn.Committing {
		r.Fate = 1
	}
	fence := r.fence
	r.Parts, r.Since, r.owner, r.fence = nil, 0, false, false
	if r.Epoch == m.c.Epochs {
		r.State = txn.Retired
		return api.OK, &r
	}
	r.Epoch++
	r.State = txn.Idle
	if fence {
		r.State, r.Parts = txn.Fencing, m.all()
		r = r.enter()
	}
	return api.OK, &r
}

func (m *model) tick(now int64) []row {
	var l []row
	for _, r := range m.rows {
		if r.State == txn.Open && now > r.Since+r.Limit {
			r.State = txn.Aborting
			l = append(l, r.enter())
		}
	}
	return l
}

// put makes a row what it is to be.
func (m *model) put(r *row) {
	if r == nil {
		return
	}
	if i := m.at(r.Pid); i >= 0 {
		m.rows[i] = *r
		return
	}
	m.rows = append(m.rows, *r)
}

// twin is a coordinator beside a model of it: the ledger has to have the records that the model says.
type twin struct {
	*txn.Coord
	m *model
	d *disk.Disk
	l *ledger.Ledger
}

func newTwin(t *testing.T, c txn.Config, rows ...row) *twin {
	t.Helper()
	w := &twin{m: &model{c: c}, d: newDisk(t)}
	l := opened(t, w.d)
	for _, r := range rows {
		want(t, "Set", l.Set("t"+r.Id, r.value(), 3), api.OK)
		w.m.rows = append(w.m.rows, r.enter())
	}
	slices.SortFunc(w.m.rows, func(a, b row) int { return int(a.Pid - b.Pid) })
	w.start(t, "started")
	return w
}

// start starts the coordinator on what the disk has.
func (w *twin) start(t *testing.T, what string) {
	t.Helper()
	w.l = opened(t, w.d)
	x, err := txn.Start(w.l, w.m.c)
	if err != api.OK {
		t.Fatal("Start", err)
	}
	w.Coord = x
	w.same(t, what)
}

func (w *twin) same(t *testing.T, what string) {
	t.Helper()
	if got, m := seen(w.Coord), w.m.seen(); got != m {
		t.Errorf("%s: %s, not %s", what, got, m)
	}
	for _, r := range w.m.rows {
		if got, ok := w.l.Get("t" + r.Id); got != r.value() || !ok {
			t.Errorf("%s: the record of %s: %x, %v, not %x", what, r.Id, got, ok, r.value())
		}
	}
}

// crash starts the coordinator again, on what is left.
func (w *twin) crash(t *testing.T, keep ...int) {
	t.Helper()
	w.d = w.d.Crash(keep...)
	w.m = w.m.restarted()
	w.start(t, "started again")
}

func (w *twin) init(t *testing.T, id string, who, limit, now int64) (int64, int, api.Errno) {
	t.Helper()
	what := fmt.Sprintf("Init(%q, %d, %d, %d)", id, who, limit, now)
	pid, epoch, err := w.Init(id, who, limit, now)
	p, n, e, r := w.m.init(id, who, limit, now)
	if pid != p || epoch != n || err != e {
		t.Errorf("%s: %d, %d, %d, not %d, %d, %d", what, pid, epoch, err, p, n, e)
	}
	w.m.put(r)
	w.same(t, what)
	return pid, epoch, err
}

func (w *twin) add(t *testing.T, pid int64, epoch int, now int64, parts ...int) api.Errno {
	t.Helper()
	what := fmt.Sprintf("Add(%d, %d, %d, %v)", pid, epoch, now, parts)
	err := w.Add(pid, epoch, now, parts...)
	e, r := w.m.add(pid, epoch, now, parts...)
	want(t, what, err, e)
	w.m.put(r)
	w.same(t, what)
	return err
}

func (w *twin) end(t *testing.T, pid int64, epoch int, commit bool, now int64) (int, api.Errno) {
	t.Helper()
	what := fmt.Sprintf("End(%d, %d, %v, %d)", pid, epoch, commit, now)
	got, err := w.End(pid, epoch, commit, now)
	n, e, r := w.m.end(pid, epoch, commit, now)
	if got != n || err != e {
		t.Errorf("%s: %d, %d, not %d, %d", what, got, err, n, e)
	}
	w.m.put(r)
	w.same(t, what)
	return got, err
}

func (w *twin) marked(t *testing.T, pid int64, epoch, part int, now int64) api.Errno {
	t.Helper()
	what := fmt.Sprintf("Marked(%d, %d, %d, %d)", pid, epoch, part, now)
	err := w.Marked(pid, epoch, part, now)
	e, r := w.m.marked(pid, epoch, part, now)
	want(t, what, err, e)
	w.m.put(r)
	w.same(t, what)
	return err
}

func (w *twin) tick(t *testing.T, now int64) int {
	t.Helper()
	what := fmt.Sprintf("Tick(%d)", now)
	n, err := w.Tick(now)
	if badTime(now) {
		want(t, what, err, api.ErrArg)
	} else {
		want(t, what, err, api.OK)
		rows := w.m.tick(now)
		if n != len(rows) {
			t.Errorf("%s: %d, not %d", what, n, len(rows))
		}
		for _, r := range rows {
			w.m.put(&r)
		}
	}
	w.same(t, what)
	return n
}
