package dedup

import (
	"towpath/api"
	"towpath/frame"
	"towpath/wire"
)

// Bytes returns a frame from which Load makes the same table.
func (t *Table) Bytes() []byte {
	if t == nil {
		return nil
	}
	b := wire.Join(wire.Uint(uint64(t.next)), wire.Uint(uint64(len(t.rows))))
	for _, r := range t.Rows() {
		for _, n := range []int64{r.Pid, int64(r.Epoch), int64(r.Seq), int64(r.Count), r.Base} {
			b = append(b, wire.Uint(uint64(n))...)
		}
		b = append(b, wire.Int(r.From)...)
		b = append(b, wire.Uint(uint64(r.Time))...)
	}
	return frame.Seal(b)
}

// Load returns the table whose Bytes are b, for at most so many producers.
func Load(b []byte, most int) (*Table, api.Errno) {
	t, err := New(most)
	if err != api.OK {
		return nil, err
	}
	body, ok := frame.Open(b)
	if !ok || !t.load(wire.NewReader(body)) {
		return nil, api.ErrForm
	}
	return t, api.OK
}

// load fills an empty table, and reports whether there may be such a one. A number that can't be read is 0, and no producer has that one.
func (t *Table) load(r *wire.Reader) bool {
	t.next = int64(r.Uint())
	rows := r.Uint()
	if !from0to(api.MaxOffset+1, t.next) || rows > uint64(t.most) {
		return false
	}
	last := int64(0)
	for range rows {
		row := readRow(r)
		if row.Pid <= last || !row.inLimits() || !row.fits(t.next) {
			return false
		}
		t.rows[row.Pid] = row
		last = row.Pid
	}
	return r.End() == api.OK
}

func readRow(r *wire.Reader) Row {
	return Row{
		Pid:   int64(r.Uint()),
		Epoch: int(r.Uint()),
		Seq:   int(r.Uint()),
		Count: int(r.Uint()),
		Base:  int64(r.Uint()),
		From:  r.Int(),
		Time:  int64(r.Uint()),
	}
}

func from0to(most, n int64) bool { return 0 <= n && n <= most }

// inLimits looks at each number of a row by itself: those beyond an int64 have come out below 0.
func (r Row) inLimits() bool {
	return from0to(api.MaxPid, r.Pid) &&
		from0to(api.MaxEpoch+1, int64(r.Epoch)) &&
		from0to(api.MaxSeq, int64(r.Seq)) &&
		from0to(api.MaxRecords, int64(r.Count)) &&
		from0to(api.MaxOffset, r.Base) &&
		from0to(api.MaxTime, r.Time)
}

// fits looks at numbers in their limits beside each other and beside the next offset.
func (r Row) fits(next int64) bool {
	if r.Count == 0 {
		return r == begun(r.Pid, r.Epoch, r.Time)
	}
	return r.Epoch <= api.MaxEpoch &&
		behind(r.Seq, r.Count) <= api.MaxSeq+1 &&
		r.Base+int64(r.Count) <= next &&
		none <= r.From && r.From <= r.Base
}
