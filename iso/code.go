package iso

import (
	"towpath/api"
	"towpath/frame"
	"towpath/wire"
)

// Bytes returns a frame from which Load makes the same view.
func (v *View) Bytes() []byte {
	if v == nil {
		return nil
	}
	b := uints(v.next, int64(len(v.open)))
	for _, t := range v.Open() {
		b = append(b, uints(t.Pid, int64(t.Epoch), t.First)...)
	}
	b = append(b, uints(int64(len(v.fallen)))...)
	for _, t := range v.Fallen() {
		b = append(b, uints(t.Pid, int64(t.Epoch), t.First, t.Last)...)
	}
	return frame.Seal(b)
}

// uints encodes numbers that are not below 0, without their count.
func uints(l ...int64) []byte {
	var b []byte
	for _, n := range l {
		b = append(b, wire.Uint(uint64(n))...)
	}
	return b
}

// Load returns the view whose Bytes are b.
func Load(b []byte) (*View, api.Errno) {
	body, ok := frame.Open(b)
	if !ok {
		return nil, api.ErrForm
	}
	v, r := New(), wire.NewReader(body)
	v.next = int64(r.Uint())
	if !from0to(api.MaxOffset+1, v.next) || !v.loadOpen(r) || !v.loadFallen(r) || r.End() != api.OK {
		return nil, api.ErrForm
	}
	return v, api.OK
}

// loadOpen gives a view its open transactions, and reports whether there may be such. A number that can't be read is 0, and no producer has that one.
func (v *View) loadOpen(r *wire.Reader) bool {
	n := r.Uint()
	if n > mostOpen {
		return false
	}
	last := int64(none)
	for range n {
		t := txn{id: readID(r), First: int64(r.Uint()), Last: none}
		_, again := v.open[t.Pid]
		if !t.inLimits() || again || t.First <= last || t.First >= v.next {
			return false
		}
		v.open[t.Pid] = t
		last = t.First
	}
	return true
}

// loadFallen gives a view its aborted transactions, behind the open ones, and reports whether there may be such.
func (v *View) loadFallen(r *wire.Reader) bool {
	n := r.Uint()
	if n > mostFallen {
		return false
	}
	last := int64(none)
	for range n {
		t := txn{id: readID(r), First: int64(r.Uint()), Last: int64(r.Uint())}
		_, again := v.fallen[t.id]
		if !t.inLimits() || again || v.open[t.Pid].id == t.id || t.First < 0 || t.Last <= max(t.First, last) || t.Last >= v.next {
			return false
		}
		v.fallen[t.id] = t
		last = t.Last
	}
	return true
}

func readID(r *wire.Reader) id {
	return id{Pid: int64(r.Uint()), Epoch: int(r.Uint())}
}

func from0to(most, n int64) bool { return 0 <= n && n <= most }

// inLimits looks at the numbers of an identity: those beyond an int64 have come out below 0.
func (i id) inLimits() bool {
	return i.Pid > 0 && i.Pid <= api.MaxPid && from0to(api.MaxEpoch, int64(i.Epoch))
}
