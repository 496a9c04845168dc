package rec

import (
	"towpath/api"
	"towpath/wire"
)

const form = 1 // the first byte of each encoding

// Encode returns the only encoding of a valid batch.
func Encode(b api.Batch) ([]byte, api.Errno) {
	if err := Valid(b); err != api.OK {
		return nil, err
	}
	if marker(b) {
		return head(b), api.OK
	}
	parts := [][]byte{head(b), numbers(len(b.L))}
	last := ""
	for _, r := range b.L {
		parts = append(parts, record(r, b.Time, last))
		last = r.Key
	}
	return wire.Join(parts...), api.OK
}

// Size returns how many bytes Encode returns.
func Size(b api.Batch) int {
	raw, _ := Encode(b)
	return len(raw)
}

func head(b api.Batch) []byte {
	l := wire.Join(numbers(form, b.Kind), numbers(b.Base, b.Pid))
	if b.Pid != 0 {
		l = append(l, numbers(b.Epoch)...)
		if !marker(b) {
			l = append(l, numbers(b.Seq)...)
		}
	}
	return append(l, numbers(b.Time)...)
}

// record encodes a record behind one with the key last, and saves what their keys share.
func record(r api.Record, time int64, last string) []byte {
	n := common(last, r.Key)
	l := wire.Join(wire.Int(r.Time-time), wire.Flag(r.Gone), numbers(n), wire.Text(r.Key[n:]))
	if r.Gone {
		return l
	}
	return append(l, wire.Text(r.Value)...)
}

func numbers[T int | int64](l ...T) []byte {
	var b []byte
	for _, n := range l {
		b = append(b, wire.Uint(uint64(n))...)
	}
	return b
}

// common returns the length of the longest common prefix, in bytes.
func common(a, b string) int {
	n := 0
	for n < len(a) && n < len(b) && a[n] == b[n] {
		n++
	}
	return n
}

// Decode returns the batch of which b is the encoding.
func Decode(b []byte) (api.Batch, api.Errno) {
	d := decoder{Reader: wire.NewReader(b)}
	batch := d.batch()
	if d.wrong || d.End() != api.OK || Valid(batch) != api.OK {
		return api.Batch{}, api.ErrForm
	}
	return batch, api.OK
}

// decoder is a reader that also notes what no batch is encoded as, though each element of it can be read.
type decoder struct {
	*wire.Reader
	wrong bool
}

func (d *decoder) must(ok bool) { d.wrong = d.wrong || !ok }

// upTo reads an unsigned number. A greater one is 0, so that it fits the field, and what is made by it stays small.
func (d *decoder) upTo(most int64) int64 {
	n := d.Uint()
	if n > uint64(most) {
		d.wrong = true
		return 0
	}
	return int64(n)
}

func (d *decoder) batch() api.Batch {
	var b api.Batch
	d.must(d.Byte() == form)
	b.Kind = d.Byte()
	b.Base = d.upTo(api.MaxOffset)
	b.Pid = d.upTo(api.MaxPid)
	if b.Pid != 0 {
		b.Epoch = int(d.upTo(api.MaxEpoch))
		if !marker(b) {
			b.Seq = int(d.upTo(api.MaxSeq))
		}
	}
	b.Time = d.upTo(api.MaxTime)
	if !marker(b) {
		b.L = d.records(b.Time)
	}
	return b
}

func (d *decoder) records(time int64) []api.Record {
	var l []api.Record
	last := ""
	for range d.upTo(api.MaxRecords) {
		r := d.record(time, last)
		l = append(l, r)
		last = r.Key
	}
	return l
}

// record reads a record behind one with the key last. Only the longest common prefix will do: a shorter one would be a second encoding of the same key.
func (d *decoder) record(time int64, last string) api.Record {
	var r api.Record
	r.Time = time + d.Int()
	r.Gone = d.Flag()
	n := int(d.upTo(int64(len(last))))
	r.Key = last[:n] + d.Text(api.MaxText)
	d.must(common(last, r.Key) == n)
	if !r.Gone {
		r.Value = d.Text(api.MaxText)
	}
	return r
}
