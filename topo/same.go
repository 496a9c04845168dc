package topo

import (
	"slices"

	"towpath/expr"
)

// Same reports whether two tables are equal. An absent list is an empty one.
func Same(a, b Table) bool {
	return a.Stores == b.Stores && a.Topics == b.Topics && a.Steps == b.Steps &&
		slices.EqualFunc(a.Nodes, b.Nodes, sameNode) && slices.EqualFunc(a.Puncts, b.Puncts, samePunct)
}

func sameNode(a, b Node) bool {
	return a.Kind == b.Kind && a.In == b.In && a.Arm == b.Arm && a.Store == b.Store && a.Topic == b.Topic &&
		a.Spread == b.Spread && a.Size == b.Size && a.Grace == b.Grace &&
		slices.Equal(a.A, b.A) && slices.Equal(a.B, b.B) &&
		slices.EqualFunc(a.Arms, b.Arms, slices.Equal[[]expr.Op]) && slices.Equal(a.Rows, b.Rows)
}

func samePunct(a, b Punct) bool {
	return a.Every == b.Every && a.Store == b.Store && a.Topic == b.Topic && slices.Equal(a.A, b.A)
}

// Copy returns an equal table of its own.
func Copy(t Table) Table {
	t.Nodes = slices.Clone(t.Nodes)
	for i := range t.Nodes {
		n := &t.Nodes[i]
		n.A, n.B = slices.Clone(n.A), slices.Clone(n.B)
		n.Rows = slices.Clone(n.Rows)
		n.Arms = slices.Clone(n.Arms)
		for j, p := range n.Arms {
			n.Arms[j] = slices.Clone(p)
		}
	}
	t.Puncts = slices.Clone(t.Puncts)
	for i, p := range t.Puncts {
		t.Puncts[i].A = slices.Clone(p.A)
	}
	return t
}
