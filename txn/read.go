package txn

import (
	"cmp"
	"maps"
	"slices"
)

// Mark is a marker that is to be written.
type Mark struct {
	Pid    int64
	Epoch  int
	Part   int
	Commit bool
}

// sorted returns the keys of a map in increasing order, as the order of the map itself must not be seen in any answer.
func sorted[K cmp.Ordered, V any](m map[K]V) []K { return slices.Sorted(maps.Keys(m)) }

// table returns the rows that may be asked even of a nil coordinator: it has none.
func (x *Coord) table() map[int64]kept {
	if x == nil {
		return nil
	}
	return x.rows
}

// shown returns a row that its reader may write into.
func (r Row) shown() Row {
	r.Parts = slices.Clone(r.Parts)
	return r
}

// Marks returns the markers that are owed.
func (x *Coord) Marks() []Mark {
	var l []Mark
	for _, pid := range sorted(x.table()) {
		k := x.rows[pid]
		for _, part := range sorted(k.owed) {
			l = append(l, Mark{Pid: pid, Epoch: k.Epoch, Part: part, Commit: k.State == Committing})
		}
	}
	return l
}

// Row returns the row of a Pid.
func (x *Coord) Row(pid int64) (Row, bool) {
	k, there := x.table()[pid]
	return k.shown(), there
}

// Rows returns all rows.
func (x *Coord) Rows() []Row {
	var l []Row
	for _, pid := range sorted(x.table()) {
		l = append(l, x.rows[pid].shown())
	}
	return l
}

// Decided reports whether a producer's transaction of an epoch is committed, be its markers written or not.
func (x *Coord) Decided(pid int64, epoch int) bool {
	k, there := x.table()[pid]
	return there && (epoch == k.Epoch && k.State == Committing || epoch == k.past() && k.Fate == committed)
}
