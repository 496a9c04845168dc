package compact

import (
	"slices"
	"sort"

	"towpath/api"
	"towpath/rec"
)

// Table is what records come to: of each key a value.
type Table struct {
	next int64
	rows []rec.At // by increasing keys, each key once; none is Gone
}

// New returns a table to which nothing was applied.
func New() *Table { return &Table{} }

// find returns where the first row is whose key is not below this one, and whether it has this one.
func (t *Table) find(key string) (int, bool) {
	i := sort.Search(len(t.rows), func(i int) bool { return t.rows[i].Key >= key })
	return i, i < len(t.rows) && t.rows[i].Key == key
}

// Apply takes records, all or none, that follow those which came before them.
func (t *Table) Apply(l ...rec.At) api.Errno {
	switch {
	case t == nil:
		return api.ErrNil
	case len(l) == 0:
		return api.OK
	}
	last := l[len(l)-1].Offset
	if !increase(l) || l[0].Offset < t.next || last > api.MaxOffset {
		return api.ErrRange
	}
	for _, r := range l {
		t.apply(r)
	}
	t.next = last + 1
	return api.OK
}

func (t *Table) apply(r rec.At) {
	i, there := t.find(r.Key)
	switch {
	case r.Gone && there:
		t.rows = slices.Delete(t.rows, i, i+1)
	case r.Gone: // of a key that has no value anyway
	case there:
		t.rows[i] = r
	default:
		t.rows = slices.Insert(t.rows, i, r)
	}
}

// Get returns the record of a key.
func (t *Table) Get(key string) (rec.At, bool) {
	if t == nil {
		return rec.At{}, false
	}
	i, there := t.find(key)
	if !there {
		return rec.At{}, false
	}
	return t.rows[i], true
}

// Range returns at most so many records, of the keys from one on and below another. An empty end is none.
func (t *Table) Range(from, to string, most int) []rec.At {
	if t == nil {
		return nil
	}
	start, _ := t.find(from)
	end := len(t.rows)
	if to != "" {
		end, _ = t.find(to)
	}
	n := min(end-start, most)
	if n <= 0 {
		return nil
	}
	return copied(t.rows[start : start+n])
}

// copied returns records in memory of their own, so that who asked may write into them.
func copied(l []rec.At) []rec.At {
	c := make([]rec.At, len(l))
	copy(c, l)
	return c
}

// All returns the records of all keys.
func (t *Table) All() []rec.At {
	if t == nil {
		return nil
	}
	return copied(t.rows)
}

// Len returns how many keys there are.
func (t *Table) Len() int {
	if t == nil {
		return 0
	}
	return len(t.rows)
}

// Next returns the offset behind the last record that was applied.
func (t *Table) Next() int64 {
	if t == nil {
		return 0
	}
	return t.next
}

// Same reports whether two tables say the same, wherever and whenever they got it.
func (t *Table) Same(u *Table) bool {
	if t == nil || u == nil {
		return false
	}
	return slices.EqualFunc(t.rows, u.rows, func(a, b rec.At) bool {
		return a.Key == b.Key && a.Value == b.Value
	})
}

// Copy returns a table that goes on by itself.
func (t *Table) Copy() *Table {
	if t == nil {
		return nil
	}
	return &Table{next: t.next, rows: copied(t.rows)}
}
