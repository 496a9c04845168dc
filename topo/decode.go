package topo

import (
	"towpath/api"
	"towpath/expr"
	"towpath/frame"
	"towpath/wire"
)

// Decode returns the table of which b is the encoding.
func Decode(b []byte) (Table, api.Errno) {
	body, ok := frame.Open(b)
	if !ok {
		return Table{}, api.ErrForm
	}
	d := decoder{Reader: wire.NewReader(body)}
	t := d.table()
	if d.wrong || d.End() != api.OK {
		return Table{}, api.ErrForm
	}
	if _, err := Check(t); err != api.OK {
		return Table{}, err
	}
	return t, api.OK
}

// beyond is above all numbers of a table, so that each of them can be counted with.
const beyond = 1 << 41

// decoder is a reader that also notes numbers that are too great.
type decoder struct {
	*wire.Reader
	wrong bool
}

func (d *decoder) long() int64 {
	n := d.Uint()
	d.wrong = d.wrong || n >= beyond
	return int64(n)
}

func (d *decoder) number() int { return int(d.long()) }

func (d *decoder) text() string { return d.Text(api.MaxBody) }

// elements reads how many there are, and each of them. It ends at an error, whatever number stood ahead.
func elements[T any](d *decoder, element func() T) []T {
	var l []T
	for range d.long() {
		if d.wrong || d.Err() != api.OK {
			return nil
		}
		l = append(l, element())
	}
	return l
}

// The parts of a table stand in the order in which they are written here.

func (d *decoder) table() Table {
	var t Table
	t.Stores, t.Topics, t.Steps = d.number(), d.number(), d.number()
	t.Nodes = elements(d, d.node)
	t.Puncts = elements(d, d.punct)
	return t
}

func (d *decoder) node() Node {
	var n Node
	n.Kind, n.In, n.Arm, n.Store, n.Topic = d.number(), d.number()-1, d.number(), d.number(), d.number()
	n.Spread = d.Flag()
	n.Size, n.Grace = d.long(), d.long()
	n.A, n.B = d.program(), d.program()
	n.Arms = elements(d, d.program)
	n.Rows = elements(d, d.row)
	return n
}

func (d *decoder) program() []expr.Op { return elements(d, d.operation) }

func (d *decoder) operation() expr.Op {
	return expr.Op{Code: d.number(), N: d.Int(), S: d.text()}
}

func (d *decoder) row() Row {
	return Row{From: d.text(), On: d.text(), To: d.text(), Out: d.text()}
}

func (d *decoder) punct() Punct {
	return Punct{Every: d.long(), Store: d.number(), Topic: d.number(), A: d.program()}
}
