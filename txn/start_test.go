package txn_test

import (
	"encoding/binary"
	"fmt"
	"math"
	"strings"
	"testing"

	"towpath/api"
	"towpath/txn"
)

// P15.1: a nil ledger, ahead of a config that may not be; each bound of a config, one below and one above.
func TestStart(t *testing.T) {
	l := opened(t, newDisk(t))
	for _, c := range []struct {
		c   txn.Config
		err api.Errno
	}{
		{three, api.OK},
		{txn.Config{Parts: 1, Rows: 1}, api.OK},
		{txn.Config{Parts: 256, Rows: 1024, Epochs: api.MaxEpoch}, api.OK},
		{txn.Config{}, api.ErrArg},
		{txn.Config{Parts: 0, Rows: 1, Epochs: 1}, api.ErrArg},
		{txn.Config{Parts: -1, Rows: 1, Epochs: 1}, api.ErrArg},
		{txn.Config{Parts: 257, Rows: 1, Epochs: 1}, api.ErrArg},
		{txn.Config{Parts: 1, Rows: 0, Epochs: 1}, api.ErrArg},
		{txn.Config{Parts: 1, Rows: -1, Epochs: 1}, api.ErrArg},
		{txn.Config{Parts: 1, Rows: 1025, Epochs: 1}, api.ErrArg},
		{txn.Config{Parts: 1, Rows: 1, Epochs: -1}, api.ErrArg},
		{txn.Config{Parts: 1, Rows: 1, Epochs: api.MaxEpoch + 1}, api.ErrArg},
		{txn.Config{Parts: math.MinInt, Rows: 1, Epochs: 1}, api.ErrArg},
		{txn.Config{Parts: 1, Rows: math.MaxInt, Epochs: 1}, api.ErrArg},
		{txn.Config{Parts: 1, Rows: 1, Epochs: math.MaxInt}, api.ErrArg},
	} {
		x, err := txn.Start(l, c.c)
		if err != c.err || (x != nil) != (err == api.OK) {
			t.Errorf("Start(%v): %v, %d, not %d", c.c, x, err, c.err)
		}
		if x != nil && seen(x) != "marks []" {
			t.Errorf("Start(%v): %s", c.c, seen(x))
		}
		x, err = txn.Start(nil, c.c)
		if err != api.ErrNil || x != nil {
			t.Errorf("Start of nil, %v: %v, %d", c.c, x, err)
		}
	}
}

// good is a row that has nothing at a bound.
func good() row {
	return row{Row: txn.Row{Id: "id", Pid: 7, Epoch: 2, Who: 5, State: txn.Aborting, Parts: []int{0, 2}, Since: 9, Limit: 100, Fate: 3}, owner: true, fence: true}
}

// P15.1: each number of a record at its bounds and beyond them, and each thing that it may not have beside another one.
func TestStartRecords(t *testing.T) {
	state := func(state int, parts ...int) row {
		r := good()
		r.State, r.Parts, r.owner, r.fence = state, parts, false, false
		return r
	}
	flags := func(r row, owner, fence bool) row {
		r.owner, r.fence = owner, fence
		return r
	}
	with := func(change func(r *row)) row {
		r := good()
		change(&r)
		return r
	}
	for _, c := range []struct {
		what string
		r    row
		ok   bool
	}{
		{"good", good(), true},
		{"an id of one byte", with(func(r *row) { r.Id = "\x00" }), true},
		{"an id of 24 bytes", with(func(r *row) { r.Id = strings.Repeat("\xff", 24) }), true},
		{"an id of 25 bytes", with(func(r *row) { r.Id = strings.Repeat("x", 25) }), false},
		{"no id", with(func(r *row) { r.Id = "" }), false},
		{"Pid 1", with(func(r *row) { r.Pid = 1 }), true},
		{"Pid 0", with(func(r *row) { r.Pid = 0 }), false},
		{"Pid MaxPid", with(func(r *row) { r.Pid = api.MaxPid }), true},
		{"Pid MaxPid + 1", with(func(r *row) { r.Pid = api.MaxPid + 1 }), false},
		{"Pid -1", with(func(r *row) { r.Pid = -1 }), false},
		{"Epoch 0", with(func(r *row) { r.Epoch = 0 }), true},
		{"the last epoch", with(func(r *row) { r.Epoch = 5 }), true},
		{"Epoch behind the last one", with(func(r *row) { r.Epoch = 6 }), false},
		{"Epoch -1", with(func(r *row) { r.Epoch = -1 }), false},
		{"Who 0", with(func(r *row) { r.Who = 0 }), true},
		{"Who MaxTime", with(func(r *row) { r.Who = api.MaxTime }), true},
		{"Who MaxTime + 1", with(func(r *row) { r.Who = api.MaxTime + 1 }), false},
		{"Who -1", with(func(r *row) { r.Who = -1 }), false},
		{"Since 0", with(func(r *row) { r.Since = 0 }), true},
		{"Since MaxTime", with(func(r *row) { r.Since = api.MaxTime }), true},
		{"Since MaxTime + 1", with(func(r *row) { r.Since = api.MaxTime + 1 }), false},
		{"Since -1", with(func(r *row) { r.Since = -1 }), false},
		{"Limit 0", with(func(r *row) { r.Limit = 0 }), true},
		{"Limit MaxTime", with(func(r *row) { r.Limit = api.MaxTime }), true},
		{"Limit MaxTime + 1", with(func(r *row) { r.Limit = api.MaxTime + 1 }), false},
		{"Limit -1", with(func(r *row) { r.Limit = -1 }), false},
		{"Fate 0", with(func(r *row) { r.Fate = 0 }), true},
		{"Fate 1", with(func(r *row) { r.Fate = 1 }), true},
		{"Fate 2", with(func(r *row) { r.Fate = 2 }), true},
		{"Fate 4", with(func(r *row) { r.Fate = 4 }), false},
		{"Fate -1", with(func(r *row) { r.Fate = -1 }), false},
		{"State -1", state(-1, 0), false},
		{"Idle", state(txn.Idle), true},
		{"Idle with a part", state(txn.Idle, 0), false},
		{"Open", state(txn.Open, 1), true},
		{"Open without parts", state(txn.Open), false},
		{"Committing", state(txn.Committing, 1), true},
		{"Committing without parts", state(txn.Committing), false},
		{"Aborting", state(txn.Aborting, 1), true},
		{"Aborting without parts", state(txn.Aborting), false},
		{"Fencing", state(txn.Fencing, 0, 1, 2), true},
		{"Fencing of some parts", state(txn.Fencing, 1), true},
		{"Fencing without parts", state(txn.Fencing), false},
		{"Retired", state(txn.Retired), true},
		{"Retired with a part", state(txn.Retired, 0), false},
		{"State 6", state(6), false},
		{"State 6 with a part", state(6, 0), false},
		{"part 0", state(txn.Open, 0), true},
		{"the last part", state(txn.Open, 2), true},
		{"a part behind the last one", state(txn.Open, 3), false},
		{"a part behind the last one behind others", state(txn.Open, 0, 3), false},
		{"part -1", state(txn.Open, -1), false},
		{"a part below 0 behind others", state(txn.Open, 0, math.MinInt), false},
		{"a part twice", state(txn.Open, 1, 1), false},
		{"falling parts", state(txn.Open, 1, 0), false},
		{"parts that fall at last", state(txn.Open, 0, 2, 1), false},
		{"more parts than there are", state(txn.Open, 0, 1, 2, 3), false},
		{"Idle, by its owner", flags(state(txn.Idle), true, false), false},
		{"Open, by its owner", flags(state(txn.Open, 1), true, false), false},
		{"Committing, by its owner", flags(state(txn.Committing, 1), true, false), false},
		{"Aborting, by its owner", flags(state(txn.Aborting, 1), true, false), true},
		{"Fencing, by its owner", flags(state(txn.Fencing, 1), true, false), false},
		{"Retired, by its owner", flags(state(txn.Retired), true, false), false},
		{"Idle, to be fenced", flags(state(txn.Idle), false, true), false},
		{"Open, to be fenced", flags(state(txn.Open, 1), false, true), false},
		{"Committing, to be fenced", flags(state(txn.Committing, 1), false, true), true},
		{"Aborting, to be fenced", flags(state(txn.Aborting, 1), false, true), true},
		{"Fencing, to be fenced", flags(state(txn.Fencing, 1), false, true), false},
		{"Retired, to be fenced", flags(state(txn.Retired), false, true), false},
	} {
		loads(t, c.what, "t"+c.r.Id, c.r.value(), c.r, c.ok)
	}
}

// loads: is this the record of the row?
func loads(t *testing.T, what, key, value string, r row, ok bool) {
	t.Helper()
	d := newDisk(t)
	want(t, what, opened(t, d).Set(key, value, 3), api.OK)
	m := model{c: three}
	if ok {
		m.rows = append(m.rows, r.enter())
	}
	w := &twin{m: &m, d: d}
	w.start(t, what)
	w.init(t, "zz", 1, 1, 4) // goes on behind what it has
	w.crash(t)
}

// P15.1: records of other keys, and values that are no row's.
func TestStartForms(t *testing.T) {
	g := good()
	v := g.value()
	loads(t, "good", "tid", v, g, true)
	for _, key := range []string{"id", "", "T", "Tid", "uid", "\x74", "tidtidtidtidtidtidtidtidt2"} {
		loads(t, fmt.Sprintf("key %q", key), key, v, g, false)
	}
	for i := range v {
		loads(t, "cut off", "tid", v[:i], g, false)
		if v[i] < 128 { // as it is in more bytes than it needs
			loads(t, "a long form", "tid", v[:i]+string([]byte{v[i] | 128, 0})+v[i+1:], g, false)
		}
	}
	for _, more := range []string{"\x00", "\x01", "\x80", v} {
		loads(t, "goes on", "tid", v+more, g, false)
	}
	for _, flag := range []string{"\x02", "\xff", "t"} {
		i := strings.Index(v, "\x01\x01\x02\x00\x02")
		loads(t, "no flag", "tid", v[:i]+flag+v[i+1:], g, false)
		loads(t, "no second flag", "tid", v[:i+1]+flag+v[i+2:], g, false)
	}
	for _, count := range []int64{0, 1, 3, 257, 258, 1 << 32, math.MaxInt64, -1, math.MinInt64} {
		i := strings.LastIndex(v, "\x02\x00\x02")
		loads(t, fmt.Sprint("a count of ", count), "tid", v[:i]+body(count)+v[i+1:], g, false)
	}
}

// P15.1: a number that is 2^32, or 2^64, away from one that may be.
func TestStartGreatNumbers(t *testing.T) {
	g := good()
	numbers := []uint64{7, 2, 5, txn.Aborting, 9, 100, 3}
	for i := range numbers {
		for _, more := range []uint64{1 << 32, 1 << 41, 1 << 63} {
			var b []byte
			for j, n := range numbers {
				if j == i {
					n += more
				}
				b = binary.AppendUvarint(b, n)
			}
			// 2^32 more is too much for each of them but times, and Whos, which may be as great as that
			r := g
			ok := more == 1<<32
			switch i {
			case 2:
				r.Who += 1 << 32
			case 4:
				r.Since += 1 << 32
			case 5:
				r.Limit += 1 << 32
			default:
				ok = false
			}
			loads(t, fmt.Sprint("number ", i, " and ", more), "tid", string(b)+"\x01\x01\x02\x00\x02", r, ok)
		}
	}
	loads(t, "a part and 2^32", "tid", body(7, 2, 5, txn.Aborting, 9, 100, 3, 1, 1, 2, 0, 1<<32+2), g, false)
	loads(t, "a part and 2^63", "tid", body(7, 2, 5, txn.Aborting, 9, 100, 3, 1, 1, 2, 0, math.MinInt64+2), g, false)
}

// P15.1: rows of all partitions; more rows than Init would make; of two with one Pid the one of the lesser id; Pids in another order than ids.
func TestStartMany(t *testing.T) {
	big := txn.Config{Parts: 256, Rows: 2, Epochs: 5}
	r := good()
	r.State, r.owner, r.Parts = txn.Committing, false, (&model{c: big}).all()
	w := newTwin(t, big, r)
	if len(w.Marks()) != 256 || len(r.value()) > api.MaxText {
		t.Error(len(w.Marks()), "marks")
	}
	d := newDisk(t)
	l := opened(t, d)
	wanted := model{c: big}
	for i, id := range []string{"c", "a", "e", "b", "d"} {
		r := good()
		r.Id, r.Pid = id, int64(10-2*i)
		if id == "b" {
			r.Pid = 8 // that of a, which is earlier
		}
		if id == "e" {
			r.Parts = nil // and so it is none, and its Pid is free
			r.Pid = 2
		}
		want(t, "Set", l.Set("t"+id, r.value(), 0), api.OK)
	}
	for _, id := range []string{"d", "a", "c"} {
		r := good()
		r.Id, r.Pid = id, map[string]int64{"d": 2, "a": 8, "c": 10}[id]
		wanted.rows = append(wanted.rows, r.enter())
	}
	x := started(t, d, big)
	if got := seen(x); got != wanted.seen() {
		t.Errorf("%s, not %s", got, wanted.seen())
	}
	for _, id := range []string{"b", "e", "new"} {
		if _, _, err := x.Init(id, 1, 1, 0); err != api.ErrFull {
			t.Errorf("Init of %q: %d", id, err)
		}
	}
	more := big
	more.Rows = 4
	x = started(t, d, more)
	if pid, epoch, err := x.Init("b", 1, 1, 0); pid != 11 || epoch != 0 || err != api.OK {
		t.Errorf("Init of a row that is none: %d, %d, %d", pid, epoch, err)
	}
	more.Parts = 2
	if x = started(t, d, more); len(x.Rows()) != 1 {
		t.Error("of fewer partitions:", x.Rows())
	}
	more.Parts, more.Epochs = 3, 1
	if x = started(t, d, more); len(x.Rows()) != 1 {
		t.Error("of fewer epochs:", x.Rows())
	}
}

// P15.1: of a Pid that two records have, the first one that is a row's is the row; records that went are none.
func TestStartEqualPids(t *testing.T) {
	d := newDisk(t)
	l := opened(t, d)
	for _, id := range []string{"c", "b", "a"} {
		r := good()
		r.Id = id
		if id == "a" {
			r.Fate = 4
		}
		want(t, "Set", l.Set("t"+id, r.value(), 0), api.OK)
	}
	if x := started(t, d, three); len(x.Rows()) != 1 || x.Rows()[0].Id != "b" {
		t.Error(x.Rows())
	}
	want(t, "Drop", l.Drop("tb", 0), api.OK)
	if x := started(t, d, three); len(x.Rows()) != 1 || x.Rows()[0].Id != "c" {
		t.Error(x.Rows())
	}
}

// P15.1: a coordinator knows what the ledger had when it started.
func TestStartReads(t *testing.T) {
	w := newTwin(t, three, good())
	l := opened(t, w.d)
	x, err := txn.Start(l, three)
	want(t, "Start", err, api.OK)
	want(t, "Set", l.Set("tid", "", 0), api.OK)
	if got := seen(x); got != w.m.seen() {
		t.Errorf("%s, not %s", got, w.m.seen())
	}
	x, err = txn.Start(l, three)
	want(t, "Start", err, api.OK)
	if seen(x) != "marks []" {
		t.Error(seen(x))
	}
}

// P1: nil coordinators, and such as Start did not make.
func TestNil(t *testing.T) {
	var x *txn.Coord
	for _, now := range []int64{math.MinInt64, -1, 0, api.MaxTime, api.MaxTime + 1} {
		if pid, epoch, err := x.Init("a", 1, 1, now); pid != 0 || epoch != 0 || err != api.ErrNil {
			t.Errorf("Init: %d, %d, %d", pid, epoch, err)
		}
		want(t, "Add", x.Add(1, 0, now, 0), api.ErrNil)
		want(t, "Marked", x.Marked(1, 0, 0, now), api.ErrNil)
		if n, err := x.End(1, 0, true, now); n != 0 || err != api.ErrNil {
			t.Errorf("End: %d, %d", n, err)
		}
		if n, err := x.Tick(now); n != 0 || err != api.ErrNil {
			t.Errorf("Tick: %d, %d", n, err)
		}
	}
	for what, x := range map[string]*txn.Coord{"nil": nil, "not started": {}} {
		r, ok := x.Row(0)
		if len(x.Marks()) != 0 || len(x.Rows()) != 0 || ok || fmt.Sprint(r) != fmt.Sprint(txn.Row{}) || x.Decided(0, 0) || x.Decided(0, -1) {
			t.Errorf("%s: %s", what, seen(x))
		}
	}
	x = &txn.Coord{}
	if _, _, err := x.Init("a", 1, 1, 0); err == api.OK {
		t.Error("Init of what was not started")
	}
	x.Add(1, 0, 0, 0)
	x.End(1, 0, true, 0)
	x.Marked(1, 0, 0, 0)
	x.Tick(0)
}
