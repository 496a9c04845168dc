package msg

import (
	"towpath/api"
	"towpath/frame"
	"towpath/offsets"
	"towpath/rec"
	"towpath/wire"
)

// Decode returns the message of which b is the encoding.
func Decode(b []byte) (Msg, api.Errno) {
	body, ok := frame.Open(b)
	if !ok {
		return Msg{}, api.ErrForm
	}
	d := decoder{Reader: wire.NewReader(body)}
	m := d.message()
	if d.wrong || d.End() != api.OK || !fits(m) {
		return Msg{}, api.ErrForm
	}
	return m, api.OK
}

// decoder is a reader that also notes what no message is encoded as, though each element of it can be read.
type decoder struct {
	*wire.Reader
	wrong bool
}

func (d *decoder) must(ok bool) { d.wrong = d.wrong || !ok }

// number reads an unsigned number. One that is too great for its field comes out below 0, as no valid one is.
func (d *decoder) number() int { return int(d.Uint()) }

func (d *decoder) message() Msg {
	var m Msg
	m.Kind, m.Reply = d.Byte(), d.Flag()
	m.From, m.To, m.Id = d.number(), d.number(), int64(d.Uint())
	if m.Reply {
		m.Err = api.Errno(d.Uint())
	}
	var n numbers
	for _, f := range m.fields() {
		d.field(f, &m, &n)
	}
	m.take(n)
	return m
}

func (d *decoder) field(f field, m *Msg, n *numbers) {
	switch f {
	case onField:
		m.On = d.Flag()
	case nameField:
		m.Name = d.Text(api.MaxName)
	case intsField:
		m.Ints = list(d, mostInts, d.number)
	case batchField:
		m.Batch = d.batch()
	case rowsField:
		m.Rows = d.rows()
	case commitsField:
		m.Commits = list(d, mostCommits, d.commit)
	default:
		n[f] = d.numberIn(spans[f])
	}
}

func (d *decoder) numberIn(s span) int64 {
	if s.signed() {
		return d.Int()
	}
	return int64(d.Uint())
}

// list reads how many elements there are, and each of them. It ends at an error, whatever number stood ahead.
func list[T any](d *decoder, most int, element func() T) []T {
	count := d.Uint()
	d.must(count <= uint64(most))
	var l []T
	for range count {
		if d.wrong || d.Err() != api.OK {
			return nil
		}
		l = append(l, element())
	}
	return l
}

func (d *decoder) batch() api.Batch {
	b, err := rec.Decode([]byte(d.Text(api.MaxBody)))
	d.must(err == api.OK)
	return b
}

// rows reads records, each of which is a batch of its own, that has nothing else to say.
func (d *decoder) rows() []rec.At {
	var last int64
	return list(d, mostRows, func() rec.At {
		last += int64(d.Uint())
		b := d.batch()
		if len(b.L) != 1 || !rec.Same(b, alone(b.L[0])) {
			d.must(false)
			return rec.At{}
		}
		return rec.At{Offset: last, Record: b.L[0]}
	})
}

func (d *decoder) commit() offsets.Commit {
	c, err := offsets.Parse(api.Record{Key: d.Text(api.MaxText), Value: d.Text(api.MaxText)})
	d.must(err == api.OK)
	return c
}
