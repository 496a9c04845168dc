package iso

import (
	"cmp"
	"iter"
	"maps"
	"slices"

	"towpath/api"
	"towpath/rec"
)

// Fate returns what becomes of the records of b, as far as it is known.
func (v *View) Fate(b api.Batch) int {
	return v.fate(b, v.Stable())
}

// fate is Fate with the stable offset at hand, so that many may be asked and it be looked for once.
func (v *View) fate(b api.Batch, stable int64) int {
	switch {
	case v == nil:
		return Later
	case marker(b):
		return Sign
	case b.Base >= stable:
		return Later
	case b.Kind == api.Part && v.aborted(b):
		return Falls
	}
	return Stands
}

// aborted reports whether b is of a transaction that fell: one of that identity may have been committed ahead of it.
func (v *View) aborted(b api.Batch) bool {
	t, fell := v.fallen[owner(b)]
	return fell && b.Base >= t.First
}

// Pick returns the records that stand.
func (v *View) Pick(l ...api.Batch) []rec.At {
	stable := v.Stable()
	var stand []api.Batch
	for _, b := range l {
		if v.fate(b, stable) == Stands {
			stand = append(stand, b)
		}
	}
	return rec.Flat(stand...)
}

// Open returns the open transactions, the oldest one first.
func (v *View) Open() []Txn {
	if v == nil {
		return nil
	}
	return sorted(maps.Values(v.open), func(t Txn) int64 { return t.First })
}

// Fallen returns the aborted transactions in the order in which they ended.
func (v *View) Fallen() []Txn {
	if v == nil {
		return nil
	}
	return sorted(maps.Values(v.fallen), func(t Txn) int64 { return t.Last })
}

// sorted tells transactions in the order of an offset that no two of them share.
func sorted(all iter.Seq[txn], offset func(Txn) int64) []Txn {
	var l []Txn
	for t := range all {
		l = append(l, Txn{Pid: t.Pid, Epoch: t.Epoch, First: t.First, Last: t.Last})
	}
	slices.SortFunc(l, func(a, b Txn) int { return cmp.Compare(offset(a), offset(b)) })
	return l
}

// Stable returns the offset below which no transaction is open.
func (v *View) Stable() int64 {
	if v == nil {
		return 0
	}
	stable := v.next
	for _, t := range v.open {
		stable = min(stable, t.First)
	}
	return stable
}

// Next returns the offset behind the last batch that was accepted.
func (v *View) Next() int64 {
	if v == nil {
		return 0
	}
	return v.next
}

// Copy returns a view that goes on by itself.
func (v *View) Copy() *View {
	if v == nil {
		return nil
	}
	return &View{next: v.next, open: maps.Clone(v.open), fallen: maps.Clone(v.fallen)}
}
