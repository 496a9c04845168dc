package dedup

import (
	"cmp"
	"maps"
	"slices"
)

// Row returns what is known of a producer.
func (t *Table) Row(pid int64) (Row, bool) {
	if t == nil {
		return Row{}, false
	}
	row, ok := t.rows[pid]
	return row, ok
}

// Rows returns what is known of all producers.
func (t *Table) Rows() []Row {
	if t == nil {
		return nil
	}
	return slices.SortedFunc(maps.Values(t.rows), func(a, b Row) int { return cmp.Compare(a.Pid, b.Pid) })
}

// Open returns the rows with an open transaction, the oldest one first. Rows that were loaded may begin at one offset: they stay in the order of their producers.
func (t *Table) Open() []Row {
	l := slices.DeleteFunc(t.Rows(), func(r Row) bool { return !r.open() })
	slices.SortStableFunc(l, func(a, b Row) int { return cmp.Compare(a.From, b.From) })
	return l
}

// Expire forgets producers that have nothing open and were not heard of since a time, and returns them.
func (t *Table) Expire(time int64) []int64 {
	var l []int64
	for _, r := range t.Rows() {
		if !r.open() && r.Time < time {
			delete(t.rows, r.Pid)
			l = append(l, r.Pid)
		}
	}
	return l
}

// Stable returns the offset below which no transaction is open.
func (t *Table) Stable() int64 {
	if t == nil {
		return 0
	}
	stable := t.next
	for _, r := range t.rows {
		if r.open() {
			stable = min(stable, r.From)
		}
	}
	return stable
}

// Next returns the offset behind the last batch that was accepted.
func (t *Table) Next() int64 {
	if t == nil {
		return 0
	}
	return t.next
}

// Copy returns a table that goes on by itself.
func (t *Table) Copy() *Table {
	if t == nil {
		return nil
	}
	return &Table{most: t.most, next: t.next, rows: maps.Clone(t.rows)}
}
