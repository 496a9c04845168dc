package txn_test

import (
	"fmt"
	"math"
	"slices"
	"strings"
	"testing"

	"towpath/api"
	"towpath/ledger"
	"towpath/part"
	"towpath/seglog"
	"towpath/txn"
)

const last = int64(api.MaxTime)

// The chapter's example, told by the results that stand there.
func TestExample(t *testing.T) {
	w := newTwin(t, txn.Config{Parts: 2, Rows: 4, Epochs: 100})
	inits := func(who, now int64, pid int64, epoch int, err api.Errno) {
		t.Helper()
		if p, n, e := w.init(t, "a", who, 100, now); p != pid || n != epoch || e != err {
			t.Errorf("Init at %d: %d, %d, %d", now, p, n, e)
		}
	}
	ends := func(now int64, epoch int, err api.Errno) {
		t.Helper()
		if n, e := w.end(t, 1, 0, true, now); n != epoch || e != err {
			t.Errorf("End at %d: %d, %d", now, n, e)
		}
	}
	marks := func(l ...txn.Mark) {
		t.Helper()
		if !slices.Equal(w.Marks(), l) {
			t.Errorf("%v, not %v", w.Marks(), l)
		}
	}
	inits(5, 0, 1, 0, api.OK)
	want(t, "Add", w.add(t, 1, 0, 1, 1), api.OK)
	if w.Decided(1, 0) {
		t.Error("decided ahead of End")
	}
	ends(2, 0, api.ErrBusy)
	marks(txn.Mark{Pid: 1, Part: 1, Commit: true})
	if !w.Decided(1, 0) {
		t.Error("not decided behind End")
	}
	want(t, "Marked", w.marked(t, 1, 0, 1, 3), api.OK)
	ends(4, 1, api.OK)
	marks()
	if !w.Decided(1, 0) {
		t.Error("not decided behind the markers")
	}
	inits(6, 5, 0, 0, api.ErrBusy)
	marks(txn.Mark{Pid: 1, Epoch: 1}, txn.Mark{Pid: 1, Epoch: 1, Part: 1})
	want(t, "Marked", w.marked(t, 1, 1, 0, 5), api.OK)
	want(t, "Marked", w.marked(t, 1, 1, 1, 5), api.OK)
	inits(6, 6, 1, 2, api.OK)
	want(t, "Add", w.add(t, 1, 1, 7, 0), api.ErrFenced)
	inits(5, 8, 0, 0, api.ErrFenced)
}

// states are rows of every state, with each flag that may be set there: of Pid 1, Who 5, Epoch 2.
func states() map[string]row {
	l := map[string]row{}
	for what, r := range map[string]row{
		"Idle":                       {Row: txn.Row{State: txn.Idle}},
		"Open":                       {Row: txn.Row{State: txn.Open, Parts: []int{1}, Since: 20}},
		"Committing":                 {Row: txn.Row{State: txn.Committing, Parts: []int{0, 2}, Since: 20}},
		"Committing, to be fenced":   {Row: txn.Row{State: txn.Committing, Parts: []int{1}, Since: 20}, fence: true},
		"Aborting":                   {Row: txn.Row{State: txn.Aborting, Parts: []int{1, 2}, Since: 20}},
		"Aborting, to be fenced":     {Row: txn.Row{State: txn.Aborting, Parts: []int{2}, Since: 20}, fence: true},
		"Aborting, by its owner":     {Row: txn.Row{State: txn.Aborting, Parts: []int{0, 1, 2}, Since: 20}, owner: true},
		"Aborting, both":             {Row: txn.Row{State: txn.Aborting, Parts: []int{0}, Since: 20}, owner: true, fence: true},
		"Fencing":                    {Row: txn.Row{State: txn.Fencing, Parts: []int{0, 1, 2}}},
		"Fencing what was open once": {Row: txn.Row{State: txn.Fencing, Parts: []int{1}, Since: 20}},
		"Retired":                    {Row: txn.Row{State: txn.Retired}},
	} {
		r.Id, r.Pid, r.Epoch, r.Who, r.Limit = "a", 1, 2, 5, 100
		l[what] = r
	}
	return l
}

// each hands on a twin whose row is in each state, with each Fate, in the epoch 2, the last one but one, or the last one.
func each(t *testing.T, do func(what string, fresh func() *twin)) {
	t.Helper()
	for state, r := range states() {
		for fate := range 4 {
			for _, epoch := range []int{2, 4, 5} {
				r.Fate, r.Epoch = fate, epoch
				do(fmt.Sprintf("%s, fate %d, epoch %d", state, fate, epoch), func() *twin { return newTwin(t, three, r) })
				if t.Failed() {
					t.Fatalf("%s, fate %d, epoch %d", state, fate, epoch)
				}
			}
		}
	}
}

// P15.2: a row of each state, with a lesser, the same and a greater who, once and again.
func TestInitStates(t *testing.T) {
	each(t, func(what string, fresh func() *twin) {
		for _, who := range []int64{0, 4, 5, 6, last} {
			w := fresh()
			before := seen(w.Coord)
			_, _, err := w.init(t, "a", who, 7, 30)
			if r, _ := w.Row(1); (r.Limit == 7 && r.Who == who) != (err == api.OK || err == api.ErrBusy) {
				t.Errorf("%s, who %d: %d, then %+v", what, who, err, r)
			}
			if err != api.OK && err != api.ErrBusy && seen(w.Coord) != before {
				t.Errorf("%s, who %d: %d, then %s, not %s", what, who, err, seen(w.Coord), before)
			}
			w.init(t, "a", who, 8, 31)
			w.init(t, "a", 6, 9, 32)
			w.init(t, "b", 6, 9, 33)
			w.crash(t)
		}
	})
}

// P15.2: what Init comes to, told by the results that the chapter names.
func TestInitResults(t *testing.T) {
	all := []int{0, 1, 2}
	for _, c := range []struct {
		state string
		who   int64
		epoch int
		err   api.Errno
		then  int
		parts []int
		fate  int
	}{
		{"Idle", 4, 0, api.ErrFenced, txn.Idle, nil, 1},
		{"Idle", 5, 2, api.OK, txn.Idle, nil, 0},
		{"Idle", 6, 0, api.ErrBusy, txn.Fencing, all, 1},
		{"Open", 4, 0, api.ErrFenced, txn.Open, []int{1}, 1},
		{"Open", 5, 0, api.ErrBusy, txn.Aborting, all, 1},
		{"Open", 6, 0, api.ErrBusy, txn.Aborting, all, 1},
		{"Committing", 4, 0, api.ErrFenced, txn.Committing, []int{0, 2}, 1},
		{"Committing", 5, 0, api.ErrBusy, txn.Committing, []int{0, 2}, 1},
		{"Committing", 6, 0, api.ErrBusy, txn.Committing, []int{0, 2}, 1},
		{"Aborting", 4, 0, api.ErrFenced, txn.Aborting, []int{1, 2}, 1},
		{"Aborting", 5, 0, api.ErrBusy, txn.Aborting, []int{1, 2}, 1},
		{"Aborting", 6, 0, api.ErrBusy, txn.Aborting, []int{1, 2}, 1},
		{"Fencing", 4, 0, api.ErrFenced, txn.Fencing, all, 1},
		{"Fencing", 5, 0, api.ErrBusy, txn.Fencing, all, 1},
		{"Fencing", 6, 0, api.ErrBusy, txn.Fencing, all, 1},
		{"Fencing what was open once", 6, 0, api.ErrBusy, txn.Fencing, []int{1}, 1},
		{"Retired", 4, 0, api.ErrExhausted, txn.Retired, nil, 1},
		{"Retired", 5, 0, api.ErrExhausted, txn.Retired, nil, 1},
		{"Retired", 6, 0, api.ErrExhausted, txn.Retired, nil, 1},
	} {
		r := states()[c.state]
		r.Fate = 1
		w := newTwin(t, three, r)
		pid, epoch, err := w.init(t, "a", c.who, 100, 30)
		if pid != map[bool]int64{true: 1}[c.err == api.OK] || epoch != c.epoch || err != c.err {
			t.Errorf("%s, who %d: %d, %d, %d", c.state, c.who, pid, epoch, err)
		}
		if r, _ := w.Row(1); r.State != c.then || !slices.Equal(r.Parts, c.parts) || r.Fate != c.fate || r.Epoch != 2 {
			t.Errorf("%s, who %d: then %+v", c.state, c.who, r)
		}
	}
}

// P15.2: who is above, as the row completes: it is fenced, by how many epochs hangs on what it was.
func TestInitFences(t *testing.T) {
	for state, epoch := range map[string]int{
		"Idle": 3, "Open": 3, "Committing": 4, "Committing, to be fenced": 4, "Aborting": 4, "Aborting, to be fenced": 4,
		"Aborting, by its owner": 4, "Aborting, both": 4, "Fencing": 3, "Fencing what was open once": 3,
	} {
		w := newTwin(t, three, states()[state])
		w.init(t, "a", 6, 100, 30)
		w.init(t, "a", 6, 100, 31) // once more makes no difference
		w.settle(t)
		if pid, n, err := w.init(t, "a", 6, 100, 33); pid != 1 || n != epoch || err != api.OK {
			t.Errorf("%s: %d, %d, %d, not %d", state, pid, n, err, epoch)
		}
	}
	// The same instance again has nothing fenced that is decided already.
	for state, epoch := range map[string]int{"Open": 3, "Committing": 3, "Aborting": 3, "Aborting, by its owner": 3, "Committing, to be fenced": 4, "Aborting, to be fenced": 4} {
		w := newTwin(t, three, states()[state])
		w.init(t, "a", 5, 100, 30)
		w.settle(t)
		if pid, n, err := w.init(t, "a", 5, 100, 33); pid != 1 || n != epoch || err != api.OK {
			t.Errorf("%s, the same instance: %d, %d, %d, not %d", state, pid, n, err, epoch)
		}
	}
}

// settle has all markers marked, as often as there are any, and returns how often that was.
func (w *twin) settle(t *testing.T) int {
	t.Helper()
	rounds := 0
	for ; len(w.Marks()) > 0; rounds++ {
		for _, m := range w.Marks() {
			want(t, "Marked", w.marked(t, m.Pid, m.Epoch, m.Part, 40), api.OK)
		}
		if rounds > 9 {
			t.Fatal("there is no end of markers", w.Marks())
		}
	}
	return rounds
}

var badTimes = []int64{math.MinInt64, -1, last + 1, math.MaxInt64}

// P15.2: each argument at its bounds and beyond; each error alone, and ahead of later ones.
func TestInitArguments(t *testing.T) {
	long := strings.Repeat("n", 24)
	retired := states()["Retired"]
	retired.Pid, retired.Id = 3, "r"
	for _, c := range []struct {
		id              string
		who, limit, now int64
		pid             int64
		err             api.Errno
	}{
		{"new", 5, 100, 30, 4, api.OK},
		{"n", 5, 100, 30, 4, api.OK},
		{"\x00", 5, 100, 30, 4, api.OK},
		{long, 5, 100, 30, 4, api.OK},
		{"", 5, 100, 30, 0, api.ErrArg},
		{long + "n", 5, 100, 30, 0, api.ErrArg},
		{"new", 0, 100, 30, 4, api.OK},
		{"new", last, 100, 30, 4, api.OK},
		{"new", -1, 100, 30, 0, api.ErrArg},
		{"new", last + 1, 100, 30, 0, api.ErrArg},
		{"new", math.MinInt64, 100, 30, 0, api.ErrArg},
		{"new", math.MaxInt64, 100, 30, 0, api.ErrArg},
		{"new", 5, 1, 30, 4, api.OK},
		{"new", 5, last, 30, 4, api.OK},
		{"new", 5, 0, 30, 0, api.ErrArg},
		{"new", 5, -1, 30, 0, api.ErrArg},
		{"new", 5, last + 1, 30, 0, api.ErrArg},
		{"new", 5, math.MinInt64, 30, 0, api.ErrArg},
		{"new", 5, math.MaxInt64, 30, 0, api.ErrArg},
		{"new", 5, 100, 0, 4, api.OK},
		{"new", 5, 100, last, 4, api.OK},
		{"new", 5, 100, -1, 0, api.ErrArg},
		{"new", 5, 100, last + 1, 0, api.ErrArg},
		{"", -1, 0, -1, 0, api.ErrArg},
		{"r", 4, 100, 30, 0, api.ErrExhausted},
		{"r", 4, 100, -1, 0, api.ErrArg},
		{"r", -1, 100, 30, 0, api.ErrArg},
		{"r", 4, 0, 30, 0, api.ErrArg},
		{"a", 4, 100, 30, 0, api.ErrFenced},
		{"a", 4, 0, 30, 0, api.ErrArg},
		{"a", 4, 100, last + 1, 0, api.ErrArg},
		{"a", 5, last, last, 1, api.OK},
		{"a", 5, 1, 0, 1, api.OK},
	} {
		w := newTwin(t, three, states()["Idle"], retired)
		if pid, _, err := w.init(t, c.id, c.who, c.limit, c.now); pid != c.pid || err != c.err {
			t.Errorf("%+v: %d, %d", c, pid, err)
		}
		w.crash(t)
	}
}

// P15.2: as many rows as there may be, and one fewer; the greatest Pid, and one below it.
func TestInitRows(t *testing.T) {
	w := newTwin(t, three)
	for i := range 4 {
		if pid, epoch, err := w.init(t, fmt.Sprint("id", 9-i), int64(i), 1, 5); pid != int64(i+1) || epoch != 0 || err != api.OK {
			t.Errorf("row %d: %d, %d, %d", i, pid, epoch, err)
		}
	}
	for _, id := range []string{"id5", "id", "new"} {
		if pid, epoch, err := w.init(t, id, 5, 100, 5); pid != 0 || epoch != 0 || err != api.ErrFull {
			t.Errorf("%s: %d, %d, %d", id, pid, epoch, err)
		}
	}
	if _, _, err := w.init(t, "", 5, 100, 5); err != api.ErrArg {
		t.Error("no id:", err)
	}
	if pid, _, err := w.init(t, "id7", 2, 100, 5); pid != 3 || err != api.OK {
		t.Error("a row that is there:", pid, err)
	}

	most := states()["Open"]
	most.Pid = api.MaxPid - 1
	w = newTwin(t, three, most)
	if pid, epoch, err := w.init(t, "new", 5, 100, 5); pid != api.MaxPid || epoch != 0 || err != api.OK {
		t.Errorf("the last Pid: %d, %d, %d", pid, epoch, err)
	}
	if pid, epoch, err := w.init(t, "newer", 5, 100, 5); pid != 0 || epoch != 0 || err != api.ErrExhausted {
		t.Errorf("behind the last Pid: %d, %d, %d", pid, epoch, err)
	}
	w.init(t, "new", 5, 100, 5)
	one := three
	one.Rows = 1
	most.Pid = api.MaxPid
	w = newTwin(t, one, most)
	if _, _, err := w.init(t, "new", 5, 100, 5); err != api.ErrFull {
		t.Error("full, and behind the last Pid:", err)
	}
}

// P15.2: 1024 rows.
func TestInitMostRows(t *testing.T) {
	d := newDisk(t)
	l, err := ledger.Open(d, "x", part.Config{Config: seglog.Config{Seg: 1 << 16, Gap: 1 << 16}, Producers: 1})
	want(t, "ledger.Open", err, api.OK)
	x, err := txn.Start(l, txn.Config{Parts: 1, Rows: 1024})
	want(t, "Start", err, api.OK)
	for i := range 1025 {
		pid, _, err := x.Init(fmt.Sprint(i), 0, 1, 0)
		if i < 1024 && (err != api.OK || pid != int64(i+1)) || i == 1024 && err != api.ErrFull {
			t.Fatalf("row %d of 1024: %d, %d", i, pid, err)
		}
	}
	rows := started(t, d, txn.Config{Parts: 1, Rows: 1024}).Rows()
	if len(rows) != 1024 || rows[1023].Pid != 1024 || rows[1023].Id != "1023" {
		t.Error(len(rows), "rows")
	}
}

// P15.3: in each state, with each epoch, all kinds of parts.
func TestAddStates(t *testing.T) {
	each(t, func(what string, fresh func() *twin) {
		epoch := fresh().Rows()[0].Epoch
		for _, n := range []int{math.MinInt, -1, 0, epoch - 1, epoch, epoch + 1, 6, math.MaxInt} {
			w := fresh()
			for _, parts := range [][]int{nil, {-1}, {3}, {0, 3}, {2}, {1, 1}, {2, 0, 2, 1}} {
				before := seen(w.Coord)
				err := w.add(t, 1, n, 33, parts...)
				if (err == api.OK) != (n == epoch && len(parts) > 0 && slices.Min(parts) >= 0 && slices.Max(parts) < 3 && (before[len("{Id:a Pid:1 Epoch:2 Who:5 State:")] < '2')) {
					t.Errorf("%s, epoch %d, parts %v: %d, %s", what, n, parts, err, before)
				}
			}
			w.crash(t)
		}
	})
}

// P15.3: each error alone, and ahead of later ones; which parts are there then, and since when.
func TestAdd(t *testing.T) {
	for _, c := range []struct {
		state string
		pid   int64
		epoch int
		now   int64
		parts []int
		err   api.Errno
		then  []int
		since int64
	}{
		{"Idle", 1, 2, 33, []int{1}, api.OK, []int{1}, 33},
		{"Idle", 1, 2, 0, []int{0}, api.OK, []int{0}, 0},
		{"Idle", 1, 2, last, []int{2}, api.OK, []int{2}, last},
		{"Idle", 1, 2, 33, []int{2, 0}, api.OK, []int{0, 2}, 33},
		{"Idle", 1, 2, 33, []int{2, 0, 2, 1, 0}, api.OK, []int{0, 1, 2}, 33},
		{"Open", 1, 2, 33, []int{1}, api.OK, []int{1}, 20},
		{"Open", 1, 2, 33, []int{1, 1, 0}, api.OK, []int{0, 1}, 20},
		{"Open", 1, 2, 7, []int{2}, api.OK, []int{1, 2}, 20},
		{"Open", 1, 2, 33, []int{2, 1, 0}, api.OK, []int{0, 1, 2}, 20},
		{"Idle", 1, 2, -1, []int{1}, api.ErrArg, nil, 0},
		{"Idle", 1, 2, last + 1, []int{1}, api.ErrArg, nil, 0},
		{"Idle", 2, 2, -1, []int{1}, api.ErrArg, nil, 0},
		{"Idle", 0, 2, 33, []int{1}, api.ErrNone, nil, 0},
		{"Idle", 2, 2, 33, []int{1}, api.ErrNone, nil, 0},
		{"Idle", -1, 2, 33, nil, api.ErrNone, nil, 0},
		{"Idle", math.MaxInt64, 1, 33, []int{3}, api.ErrNone, nil, 0},
		{"Idle", 1, 2, 33, nil, api.ErrArg, nil, 0},
		{"Idle", 1, 2, 33, []int{-1}, api.ErrArg, nil, 0},
		{"Idle", 1, 2, 33, []int{3}, api.ErrArg, nil, 0},
		{"Idle", 1, 2, 33, []int{0, 1, 2, 3}, api.ErrArg, nil, 0},
		{"Idle", 1, 2, 33, []int{math.MaxInt}, api.ErrArg, nil, 0},
		{"Idle", 1, 2, 33, []int{math.MinInt}, api.ErrArg, nil, 0},
		{"Idle", 1, 1, 33, nil, api.ErrArg, nil, 0},
		{"Idle", 1, 3, 33, []int{3}, api.ErrArg, nil, 0},
		{"Retired", 1, 2, 33, []int{3}, api.ErrArg, nil, 0},
		{"Idle", 1, 1, 33, []int{1}, api.ErrFenced, nil, 0},
		{"Idle", 1, 3, 33, []int{1}, api.ErrState, nil, 0},
		{"Open", 1, 1, 33, []int{0}, api.ErrFenced, []int{1}, 20},
		{"Open", 1, 3, 33, []int{0}, api.ErrState, []int{1}, 20},
		{"Retired", 1, 1, 33, []int{0}, api.ErrFenced, nil, 0},
		{"Retired", 1, 2, 33, []int{0}, api.ErrExhausted, nil, 0},
		{"Retired", 1, 3, 33, []int{0}, api.ErrExhausted, nil, 0},
		{"Committing", 1, 2, 33, []int{0}, api.ErrBusy, []int{0, 2}, 20},
		{"Committing", 1, 1, 33, []int{0}, api.ErrFenced, []int{0, 2}, 20},
		{"Committing", 1, 3, 33, []int{0}, api.ErrState, []int{0, 2}, 20},
		{"Aborting", 1, 2, 33, []int{0}, api.ErrBusy, []int{1, 2}, 20},
		{"Fencing", 1, 2, 33, []int{0}, api.ErrBusy, []int{0, 1, 2}, 0},
	} {
		w := newTwin(t, three, states()[c.state])
		want(t, fmt.Sprintf("%+v", c), w.add(t, c.pid, c.epoch, c.now, c.parts...), c.err)
		if r, _ := w.Row(1); !slices.Equal(r.Parts, c.then) || r.Since != c.since {
			t.Errorf("%+v: then %+v", c, r)
		}
	}
	w := newTwin(t, txn.Config{Parts: 256, Rows: 1, Epochs: 0})
	w.init(t, "a", 0, 1, 0)
	all := w.m.all()
	slices.Reverse(all)
	want(t, "Add of 256", w.add(t, 1, 0, 0, append(all, all...)...), api.OK)
	want(t, "Add of 256", w.add(t, 1, 0, 0, 256), api.ErrArg)
	w.end(t, 1, 0, true, 0)
	w.crash(t)
	if len(w.Marks()) != 256 || w.settle(t) != 1 {
		t.Error("256 partitions:", w.Marks())
	}
}

// P15.4: in each state, with each outcome and epoch.
func TestEndStates(t *testing.T) {
	each(t, func(what string, fresh func() *twin) {
		epoch := fresh().Rows()[0].Epoch
		for _, n := range []int{math.MinInt, -1, 0, epoch - 2, epoch - 1, epoch, epoch + 1, 6, math.MaxInt} {
			for _, commit := range []bool{true, false} {
				w := fresh()
				w.end(t, 1, n, commit, 33)
				w.end(t, 1, n, commit, 34)
				w.end(t, 1, n, !commit, 35)
				w.crash(t)
			}
		}
	})
}

// P15.4: the results that the chapter names, each error alone and ahead of later ones.
func TestEnd(t *testing.T) {
	for _, c := range []struct {
		state  string
		fate   int
		pid    int64
		epoch  int
		commit bool
		now    int64
		got    int
		err    api.Errno
		then   int
	}{
		{"Idle", 0, 1, 2, true, 33, 2, api.OK, txn.Idle},
		{"Idle", 0, 1, 2, false, 33, 2, api.OK, txn.Idle},
		{"Open", 0, 1, 2, true, 33, 0, api.ErrBusy, txn.Committing},
		{"Open", 0, 1, 2, false, 33, 0, api.ErrBusy, txn.Aborting},
		{"Open", 0, 1, 2, true, 0, 0, api.ErrBusy, txn.Committing},
		{"Open", 0, 1, 2, false, last, 0, api.ErrBusy, txn.Aborting},
		{"Committing", 0, 1, 2, true, 33, 0, api.ErrBusy, txn.Committing},
		{"Committing", 0, 1, 2, false, 33, 0, api.ErrState, txn.Committing},
		{"Committing, to be fenced", 0, 1, 2, true, 33, 0, api.ErrBusy, txn.Committing},
		{"Aborting", 0, 1, 2, true, 33, 0, api.ErrBusy, txn.Aborting},
		{"Aborting", 0, 1, 2, false, 33, 0, api.ErrBusy, txn.Aborting},
		{"Aborting, by its owner", 0, 1, 2, true, 33, 0, api.ErrBusy, txn.Aborting},
		{"Fencing", 0, 1, 2, true, 33, 0, api.ErrBusy, txn.Fencing},
		{"Fencing", 0, 1, 2, false, 33, 0, api.ErrBusy, txn.Fencing},
		{"Retired", 0, 1, 2, true, 33, 0, api.ErrExhausted, txn.Retired},
		{"Retired", 0, 1, 2, false, 33, 0, api.ErrExhausted, txn.Retired},
		{"Retired", 1, 1, 2, true, 33, 2, api.OK, txn.Retired},
		{"Retired", 1, 1, 2, false, 33, 0, api.ErrExhausted, txn.Retired},
		{"Retired", 2, 1, 2, false, 33, 2, api.OK, txn.Retired},
		{"Retired", 2, 1, 2, true, 33, 0, api.ErrExhausted, txn.Retired},
		{"Retired", 3, 1, 2, false, 33, 0, api.ErrExhausted, txn.Retired},
		{"Retired", 3, 1, 2, true, 33, 0, api.ErrExhausted, txn.Retired},
		{"Retired", 1, 1, 1, true, 33, 0, api.ErrFenced, txn.Retired},
		{"Retired", 1, 1, 3, true, 33, 0, api.ErrExhausted, txn.Retired},
		{"Idle", 1, 1, 1, true, 33, 2, api.OK, txn.Idle},
		{"Idle", 1, 1, 1, false, 33, 0, api.ErrFenced, txn.Idle},
		{"Idle", 2, 1, 1, false, 33, 2, api.OK, txn.Idle},
		{"Idle", 2, 1, 1, true, 33, 0, api.ErrFenced, txn.Idle},
		{"Idle", 3, 1, 1, true, 33, 0, api.ErrFenced, txn.Idle},
		{"Idle", 3, 1, 1, false, 33, 0, api.ErrFenced, txn.Idle},
		{"Idle", 0, 1, 1, true, 33, 0, api.ErrFenced, txn.Idle},
		{"Idle", 0, 1, 1, false, 33, 0, api.ErrFenced, txn.Idle},
		{"Idle", 1, 1, 0, true, 33, 0, api.ErrFenced, txn.Idle},
		{"Idle", 1, 1, 3, true, 33, 0, api.ErrState, txn.Idle},
		{"Open", 1, 1, 1, true, 33, 2, api.OK, txn.Open},
		{"Open", 2, 1, 1, false, 33, 2, api.OK, txn.Open},
		{"Open", 0, 1, 1, true, 33, 0, api.ErrFenced, txn.Open},
		{"Open", 0, 1, 3, true, 33, 0, api.ErrState, txn.Open},
		{"Committing", 1, 1, 1, true, 33, 2, api.OK, txn.Committing},
		{"Aborting", 2, 1, 1, false, 33, 2, api.OK, txn.Aborting},
		{"Fencing", 1, 1, 1, true, 33, 2, api.OK, txn.Fencing},
		{"Open", 0, 1, 2, true, -1, 0, api.ErrArg, txn.Open},
		{"Open", 0, 1, 2, true, last + 1, 0, api.ErrArg, txn.Open},
		{"Open", 0, 2, 2, true, -1, 0, api.ErrArg, txn.Open},
		{"Open", 0, 2, 2, true, 33, 0, api.ErrNone, txn.Open},
		{"Open", 0, 0, 2, true, 33, 0, api.ErrNone, txn.Open},
		{"Open", 0, -1, 1, true, 33, 0, api.ErrNone, txn.Open},
	} {
		r := states()[c.state]
		r.Fate = c.fate
		w := newTwin(t, three, r)
		got, err := w.end(t, c.pid, c.epoch, c.commit, c.now)
		if n, _ := w.Row(1); got != c.got || err != c.err || n.State != c.then {
			t.Errorf("%+v: %d, %d, then %+v", c, got, err, n)
		}
	}
}

// P15.5: in each state, with each epoch, all partitions, in both directions.
func TestMarkedStates(t *testing.T) {
	each(t, func(what string, fresh func() *twin) {
		epoch := fresh().Rows()[0].Epoch
		for _, n := range []int{math.MinInt, epoch - 1, epoch, epoch + 1, math.MaxInt} {
			up, down := fresh(), fresh()
			for part := -1; part <= 4; part++ {
				want(t, what, up.marked(t, 1, n, part, 33), api.OK)
				want(t, what, down.marked(t, 1, n, 3-part, 33), api.OK)
				down.marked(t, 1, n, 3-part, 33)
			}
			if got := seen(up.Coord); got != seen(down.Coord) {
				t.Errorf("%s: %s, and %s in the other order", what, got, seen(down.Coord))
			}
			up.marked(t, 1, n+1, 0, 33)
			up.crash(t)
		}
		w := fresh()
		if rounds := w.settle(t); rounds > 3 {
			t.Errorf("%s: %d rounds", what, rounds)
		}
		w.crash(t)
	})
}

// P15.5: what a row is when it completes, at the last epoch and ahead of it, to be fenced or not.
func TestComplete(t *testing.T) {
	all := []int{0, 1, 2}
	for _, c := range []struct {
		state string
		fate  int
		then  int // ahead of the last epoch
		parts []int
	}{
		{"Committing", 1, txn.Idle, nil},
		{"Committing, to be fenced", 1, txn.Fencing, all},
		{"Aborting", 3, txn.Idle, nil},
		{"Aborting, to be fenced", 3, txn.Fencing, all},
		{"Aborting, by its owner", 2, txn.Idle, nil},
		{"Aborting, both", 2, txn.Fencing, all},
		{"Fencing", 3, txn.Idle, nil},
		{"Fencing what was open once", 3, txn.Idle, nil},
	} {
		for _, epoch := range []int{0, 4, 5} {
			r := states()[c.state]
			r.Epoch = epoch
			w := newTwin(t, three, r)
			for i, part := range r.Parts {
				if got, _ := w.Row(1); got.State != r.State || !slices.Equal(got.Parts, r.Parts) || len(w.Marks()) != len(r.Parts)-i {
					t.Errorf("%s, epoch %d, behind %d markers: %+v, %v", c.state, epoch, i, got, w.Marks())
				}
				want(t, "Marked", w.marked(t, 1, epoch, part, 33), api.OK)
			}
			then := txn.Row{Id: "a", Pid: 1, Epoch: epoch + 1, Who: 5, State: c.then, Parts: c.parts, Limit: 100, Fate: c.fate}
			if epoch == 5 {
				then.Epoch, then.State, then.Parts = 5, txn.Retired, nil
			}
			if got, _ := w.Row(1); fmt.Sprint(got) != fmt.Sprint(then) || len(w.Marks()) != len(then.Parts) {
				t.Errorf("%s, epoch %d: %+v, %v", c.state, epoch, got, w.Marks())
			}
			for _, part := range all {
				want(t, "Marked once more", w.marked(t, 1, epoch, part, 34), api.OK) // of the epoch that has passed
			}
			w.crash(t)
			if got, _ := w.Row(1); fmt.Sprint(got) != fmt.Sprint(then) {
				t.Errorf("%s, epoch %d, started again: %+v, not %+v", c.state, epoch, got, then)
			}
		}
	}
	w := newTwin(t, three, states()["Committing"])
	for _, now := range badTimes {
		want(t, "Marked", w.marked(t, 1, 2, 0, now), api.ErrArg)
		want(t, "Marked of none", w.marked(t, 2, 2, 0, now), api.ErrArg)
	}
	for _, pid := range []int64{math.MinInt64, -1, 0, 2, math.MaxInt64} {
		want(t, "Marked of none", w.marked(t, pid, 2, 0, 33), api.ErrNone)
	}
	want(t, "Marked at 0", w.marked(t, 1, 2, 0, 0), api.OK)
	want(t, "Marked at MaxTime", w.marked(t, 1, 2, 2, last), api.OK)
	for _, part := range []int{math.MinInt, -1, 3, math.MaxInt} {
		want(t, "Marked of no partition", w.marked(t, 1, 3, part, 0), api.OK)
	}
}

// P15.5: markers are owed again behind a start, and when the row enters another state; not when another instance asks meanwhile.
func TestOwedAgain(t *testing.T) {
	for _, state := range []string{"Committing", "Aborting", "Aborting, by its owner", "Fencing"} {
		w := newTwin(t, three, states()[state])
		parts := w.Rows()[0].Parts
		w.marked(t, 1, 2, parts[0], 33)
		for who := int64(5); who < 8; who++ {
			w.init(t, "a", who, 100, 34)
			if len(w.Marks()) != len(parts)-1 {
				t.Errorf("%s, asked for by %d: %v", state, who, w.Marks())
			}
		}
		w.crash(t)
		if len(w.Marks()) != len(parts) {
			t.Errorf("%s, started again: %v", state, w.Marks())
		}
	}
}

// P15.5: Tick of rows of each state; of such that opened Limit ticks ago, and one more; with several of them.
func TestTick(t *testing.T) {
	each(t, func(what string, fresh func() *twin) {
		for _, now := range []int64{0, 19, 20, 120, 121, last} {
			w := fresh()
			n := w.tick(t, now)
			if open := strings.HasPrefix(what, "Open"); (n == 1) != (open && now > 120) {
				t.Errorf("%s: Tick(%d): %d", what, now, n)
			}
			w.crash(t)
		}
	})
	open := func(id string, pid, since, limit int64, parts ...int) row {
		return row{Row: txn.Row{Id: id, Pid: pid, Who: 5, State: txn.Open, Parts: parts, Since: since, Limit: limit}}
	}
	rows := []row{
		open("d", 1, 20, 10, 1),
		open("c", 2, 19, 10, 0, 2),
		open("b", 4, 29, 0, 1, 2),
		open("a", 9, 25, 5, 0),
	}
	for now, n := range map[int64]int{-1: 0, 0: 0, 29: 0, 30: 2, 31: 4, 40: 4, last: 4, last + 1: 0} {
		w := newTwin(t, three, rows...)
		if got := w.tick(t, now); got != n {
			t.Errorf("Tick(%d): %d, not %d", now, got, n)
		}
		if got := w.tick(t, now); got != 0 {
			t.Errorf("Tick(%d) once more: %d", now, got)
		}
		w.tick(t, last)
		for _, r := range w.Rows() {
			if r.State != txn.Aborting || len(w.Marks()) != 6 {
				t.Errorf("Tick(%d): %+v, %v", now, r, w.Marks())
			}
		}
		w.settle(t)
		if _, err := w.end(t, 2, 0, false, 50); err != api.ErrFenced {
			t.Error("End of what was aborted by a Tick:", err) // as its Fate is 3
		}
		w.crash(t)
	}
	w := newTwin(t, three, open("z", 1, last, last, 0), open("y", 2, 0, last, 0), open("x", 3, 0, last-1, 0))
	if n := w.tick(t, last); n != 1 {
		t.Error("Tick at the last time:", n)
	}
	for _, now := range badTimes {
		w.tick(t, now)
	}
	if n := newTwin(t, three).tick(t, 5); n != 0 {
		t.Error("Tick without rows:", n)
	}
}

// P15.6: several rows, in the order of their Pids, with partitions marked in between; Pids that are not there.
func TestReads(t *testing.T) {
	var rows []row
	for i, state := range []string{"Committing", "Idle", "Fencing", "Open", "Aborting", "Retired"} {
		r := states()[state]
		r.Id, r.Pid, r.Fate = string(rune('z'-i)), int64(3*i+1), 1
		rows = append(rows, r)
	}
	w := newTwin(t, three, rows...)
	w.marked(t, 7, 2, 1, 33)
	mark := func(pid int64, part int, commit bool) txn.Mark {
		return txn.Mark{Pid: pid, Epoch: 2, Part: part, Commit: commit}
	}
	wanted := []txn.Mark{mark(1, 0, true), mark(1, 2, true), mark(7, 0, false), mark(7, 2, false), mark(13, 1, false), mark(13, 2, false)}
	if !slices.Equal(w.Marks(), wanted) {
		t.Errorf("Marks: %v, not %v", w.Marks(), wanted)
	}
	for i, r := range w.Rows() {
		if fmt.Sprint(r) != fmt.Sprint(rows[i].Row) {
			t.Errorf("Rows: %+v, not %+v", r, rows[i].Row)
		}
	}
	for _, pid := range []int64{math.MinInt64, -1, 0, 2, 3, 17, 1 << 32, math.MaxInt64} {
		if r, ok := w.Row(pid); ok || fmt.Sprint(r) != fmt.Sprint(txn.Row{}) || w.Decided(pid, 2) || w.Decided(pid, 1) || w.Decided(pid, -1) {
			t.Errorf("Row(%d): %+v, %v", pid, r, ok)
		}
	}
	for _, c := range []struct {
		pid     int64
		decided []int
	}{{1, []int{1, 2}}, {4, []int{1}}, {7, []int{1}}, {10, []int{1}}, {13, []int{1}}, {16, []int{2}}} {
		for _, epoch := range []int{math.MinInt, -1, 0, 1, 2, 3, math.MaxInt} {
			if w.Decided(c.pid, epoch) != slices.Contains(c.decided, epoch) {
				t.Errorf("Decided(%d, %d): %v", c.pid, epoch, w.Decided(c.pid, epoch))
			}
		}
	}
}

// Rules 4 and 5: neither arguments nor results are shared.
func TestShared(t *testing.T) {
	w := newTwin(t, three, states()["Committing"])
	w.init(t, "b", 5, 100, 0)
	parts := append(make([]int, 0, 8), 2, 0)
	want(t, "Add", w.add(t, 2, 0, 1, parts...), api.OK)
	if !slices.Equal(parts[:3], []int{2, 0, 0}) {
		t.Error("Add changed its parts", parts[:3])
	}
	parts[0], parts[1] = 1, 1
	w.same(t, "behind a change of what was given to Add")
	w.add(t, 2, 0, 1, parts[:1]...)
	w.end(t, 2, 0, true, 1)
	one, _ := w.Row(2)
	l := w.Rows()
	marks := w.Marks()
	one.Parts[0], l[0].Parts[0], l[1].Parts[1], marks[0].Part = 7, 7, 7, 7
	l[1].Epoch = 9
	_ = append(one.Parts[:1], 8, 8, 8)
	_ = append(marks[:1], txn.Mark{})
	w.same(t, "behind a change of what was returned")
	w.init(t, "c", 5, 100, 0)
	w.init(t, "c", 6, 100, 0)
	w.init(t, "b", 6, 100, 0)
	l = w.Rows()
	for i := range l {
		for j := range l[i].Parts {
			l[i].Parts[j] = 99
		}
	}
	w.same(t, "behind a change of all partitions")
	w.settle(t)
	w.crash(t)
}
