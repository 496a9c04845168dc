package index

import (
	"bytes"

	"towpath/api"
	"towpath/frame"
	"towpath/wire"
)

// Bytes returns a frame from which Load makes the same index, or no bytes if that is more than a frame may hold.
func (x *Index) Bytes() []byte {
	if x == nil {
		return nil
	}
	b := wire.Join(wire.Uint(uint64(x.gap)), wire.Uint(uint64(len(x.entries))))
	var last Entry
	for _, e := range x.entries {
		b = append(b, wire.Uint(uint64(e.Offset-last.Offset))...)
		b = append(b, wire.Uint(uint64(e.Place-last.Place))...)
		b = append(b, wire.Int(e.Before)...)
		last = e
	}
	return frame.Seal(b, wire.Int(x.offset), wire.Int(int64(x.place)), wire.Int(x.latest))
}

// Load returns the index whose Bytes are b. It makes an index by notes and a cut that lead to what b tells, if any do: if they lead elsewhere, nothing leads to b.
func Load(b []byte) (*Index, api.Errno) {
	body, ok := frame.Open(b)
	if !ok {
		return nil, api.ErrForm
	}
	x := made(told(wire.NewReader(body)))
	if !bytes.Equal(x.Bytes(), b) {
		return nil, api.ErrForm
	}
	return x, api.OK
}

// told returns what bytes tell, whether there may be such an index or not. The number of entries may be any: they end where the bytes do.
func told(r *wire.Reader) Index {
	t := Index{gap: int(r.Uint())}
	var e Entry
	for n := r.Uint(); n > 0 && r.Err() == api.OK; n-- {
		e.Offset += int64(r.Uint())
		e.Place += int(r.Uint())
		e.Before = r.Int()
		t.entries = append(t.entries, e)
	}
	t.offset, t.place, t.latest = r.Int(), int(r.Int()), r.Int()
	return t
}

// made returns an index that was made by notes and a cut so that it is t, if that can be; nil if there is none of its gap. A note that is refused needs no notice here: what comes out is not t then, unless t has no such batch.
func made(t Index) *Index {
	x, _ := New(t.gap)
	if early := t.before(0); early != none {
		x.Note(0, 0, early)
		x.Cut(0)
	}
	for i, e := range t.entries {
		x.Note(e.Offset, e.Place, t.before(i+1))
	}
	x.Note(t.offset, t.place, 0)
	return x
}

// before returns the latest time ahead of the entry i, or, behind all entries, the latest of all.
func (x *Index) before(i int) int64 {
	if i < len(x.entries) {
		return x.entries[i].Before
	}
	return x.latest
}
