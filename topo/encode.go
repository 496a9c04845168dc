package topo

import (
	"towpath/api"
	"towpath/expr"
	"towpath/frame"
	"towpath/wire"
)

// Encode returns the only encoding of a valid table.
func Encode(t Table) ([]byte, api.Errno) {
	if _, err := Check(t); err != api.OK {
		return nil, err
	}
	b := frame.Seal(unsigned(t.Stores, t.Topics, t.Steps), list(t.Nodes, node), list(t.Puncts, punct))
	if len(b) == 0 { // no frame can hold it
		return nil, api.ErrLong
	}
	return b, api.OK
}

// unsigned encodes numbers, none of which is below 0.
func unsigned[N int | int64](l ...N) []byte {
	var b []byte
	for _, n := range l {
		b = append(b, wire.Uint(uint64(n))...)
	}
	return b
}

// list encodes how many elements there are, and each of them.
func list[T any](l []T, element func(T) []byte) []byte {
	b := unsigned(len(l))
	for _, v := range l {
		b = append(b, element(v)...)
	}
	return b
}

func node(n Node) []byte {
	return wire.Join(
		unsigned(n.Kind, n.In+1, n.Arm, n.Store, n.Topic), // the first node has an In of -1
		wire.Flag(n.Spread),
		unsigned(n.Size, n.Grace),
		program(n.A),
		program(n.B),
		list(n.Arms, program),
		list(n.Rows, row))
}

func program(p []expr.Op) []byte { return list(p, operation) }

func operation(o expr.Op) []byte {
	return wire.Join(unsigned(o.Code), wire.Int(o.N), wire.Text(o.S))
}

func row(r Row) []byte {
	return wire.Join(wire.Text(r.From), wire.Text(r.On), wire.Text(r.To), wire.Text(r.Out))
}

func punct(p Punct) []byte {
	return wire.Join(unsigned(p.Every), unsigned(p.Store, p.Topic), program(p.A))
}
