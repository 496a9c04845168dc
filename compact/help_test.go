package compact_test

import (
	"fmt"
	"math/rand"
	"slices"
	"strings"
	"testing"

	"towpath/api"
	"towpath/compact"
	"towpath/rec"
)

// The calls keep the signatures that the chapter lists.
var (
	_ func(int64, ...rec.At) []rec.At                    = compact.Clean
	_ func(int64, ...rec.At) int                         = compact.Spare
	_ func(...rec.At) ([]api.Batch, api.Errno)           = compact.Pack
	_ func() *compact.Table                              = compact.New
	_ func(*compact.Table, ...rec.At) api.Errno          = (*compact.Table).Apply
	_ func(*compact.Table, string) (rec.At, bool)        = (*compact.Table).Get
	_ func(*compact.Table, string, string, int) []rec.At = (*compact.Table).Range
	_ func(*compact.Table) []rec.At                      = (*compact.Table).All
	_ func(*compact.Table) int                           = (*compact.Table).Len
	_ func(*compact.Table) int64                         = (*compact.Table).Next
	_ func(t *compact.Table, u *compact.Table) bool      = (*compact.Table).Same
	_ func(*compact.Table) *compact.Table                = (*compact.Table).Copy
)

// at is a record with a value; its time is 5.
func at(offset int64, key, value string) rec.At {
	return rec.At{Offset: offset, Record: api.Record{Key: key, Value: value, Time: 5}}
}

// gone is a record that takes a key away.
func gone(offset int64, key string, time int64) rec.At {
	return rec.At{Offset: offset, Record: api.Record{Key: key, Gone: true, Time: time}}
}

// example is the chapter's list.
func example() []rec.At {
	return []rec.At{at(0, "a", "1"), at(1, "b", "2"), gone(2, "a", 5), at(3, "b", "3")}
}

func want(t *testing.T, what string, got, err api.Errno) {
	t.Helper()
	if got != err {
		t.Errorf("%s: %d, not %d", what, got, err)
	}
}

func recordsAre(t *testing.T, what string, got []rec.At, want ...rec.At) {
	t.Helper()
	if !slices.Equal(got, want) {
		t.Errorf("%s: %v, not %v", what, got, want)
	}
}

func batchesAre(t *testing.T, what string, got []api.Batch, want ...api.Batch) {
	t.Helper()
	if !slices.EqualFunc(got, want, rec.Same) {
		t.Errorf("%s: %v, not %v", what, got, want)
	}
}

func apply(t *testing.T, x *compact.Table, l ...rec.At) {
	t.Helper()
	if err := x.Apply(l...); err != api.OK {
		t.Fatalf("Apply(%v): %d", l, err)
	}
}

func applied(t *testing.T, l ...rec.At) *compact.Table {
	t.Helper()
	x := compact.New()
	apply(t, x, l...)
	return x
}

// keyed is a table of these keys, from offset 0 on, each with itself as its value.
func keyed(t *testing.T, keys ...string) *compact.Table {
	t.Helper()
	x := compact.New()
	for i, k := range keys {
		apply(t, x, at(int64(i), k, k))
	}
	return x
}

// seen is all that a call can tell of a table.
func seen(x *compact.Table) string {
	return fmt.Sprint(x.All(), x.Len(), x.Next())
}

func same(t *testing.T, what string, x, y *compact.Table) {
	t.Helper()
	if a, b := seen(x), seen(y); a != b {
		t.Errorf("%s: %s, not %s", what, a, b)
	}
}

// keysOf joins the keys of records.
func keysOf(l []rec.At) string {
	var s []string
	for _, r := range l {
		s = append(s, r.Key)
	}
	return strings.Join(s, " ")
}

// obsolete is the chapter's word for record i of a list.
func obsolete(horizon int64, l []rec.At, i int) bool {
	for _, r := range l[i+1:] {
		if r.Key == l[i].Key {
			return true
		}
	}
	return l[i].Gone && l[i].Time < horizon
}

// cleaned says once more what Clean returns.
func cleaned(horizon int64, l []rec.At) []rec.At {
	var stay []rec.At
	for i, r := range l {
		if !obsolete(horizon, l, i) {
			stay = append(stay, r)
		}
	}
	return stay
}

// packed says once more what Pack returns, record by record.
func packed(l []rec.At) ([]api.Batch, api.Errno) {
	var bs []api.Batch
	for i, r := range l {
		if i > 0 && r.Offset <= l[i-1].Offset {
			return nil, api.ErrRange
		}
		n := len(bs) - 1
		if n < 0 || len(bs[n].L) == 64 || bs[n].Base+int64(len(bs[n].L)) != r.Offset {
			bs = append(bs, api.Batch{Base: r.Offset, Time: r.Time})
			n++
		}
		bs[n].L = append(bs[n].L, r.Record)
	}
	for _, b := range bs {
		if err := rec.Valid(b); err != api.OK {
			return nil, err
		}
	}
	return bs, api.OK
}

// model is a table that keeps all records, and looks everything up in these.
type model struct {
	past []rec.At
	next int64
}

func (m *model) apply(l ...rec.At) api.Errno {
	next := m.next
	for _, r := range l {
		if r.Offset < next || r.Offset > 1<<40 {
			return api.ErrRange
		}
		next = r.Offset + 1
	}
	m.past, m.next = append(m.past, l...), next
	return api.OK
}

func (m *model) get(key string) (rec.At, bool) {
	for _, r := range slices.Backward(m.past) {
		if r.Key == key {
			if r.Gone {
				return rec.At{}, false
			}
			return r, true
		}
	}
	return rec.At{}, false
}

func (m *model) all() []rec.At {
	var l []rec.At
	for _, r := range m.past {
		if last, ok := m.get(r.Key); ok && last.Offset == r.Offset {
			l = append(l, r)
		}
	}
	slices.SortFunc(l, func(a, b rec.At) int { return strings.Compare(a.Key, b.Key) })
	return l
}

func (m *model) reach(from, to string, most int) []rec.At {
	var l []rec.At
	for _, r := range m.all() {
		if r.Key >= from && (to == "" || r.Key < to) && len(l) < most {
			l = append(l, r)
		}
	}
	return l
}

// agree holds a table against the model.
func agree(t *testing.T, x *compact.Table, m *model, rnd *rand.Rand) {
	t.Helper()
	recordsAre(t, "All", x.All(), m.all()...)
	if x.Len() != len(m.all()) || x.Next() != m.next {
		t.Errorf("Len %d, Next %d, not %d, %d", x.Len(), x.Next(), len(m.all()), m.next)
	}
	for _, k := range keys {
		r, ok := x.Get(k)
		if w, there := m.get(k); r != w || ok != there {
			t.Errorf("Get(%q): %v, %v, not %v, %v", k, r, ok, w, there)
		}
	}
	for range 4 {
		from, to, most := keys[rnd.Intn(len(keys))], keys[rnd.Intn(len(keys))], rnd.Intn(8)-1
		recordsAre(t, fmt.Sprintf("Range(%q, %q, %d)", from, to, most), x.Range(from, to, most), m.reach(from, to, most)...)
	}
}

// keys are those of records by chance: some begin others, some are no text.
var keys = []string{"", "a", "aa", "ab", "b", "\x00", "a\x00", "\xff", "\xff\xff", "ä", "B"}

func someRecord(rnd *rand.Rand, offset int64) rec.At {
	k := keys[rnd.Intn(len(keys))]
	if rnd.Intn(3) == 0 {
		return gone(offset, k, int64(rnd.Intn(10)))
	}
	r := at(offset, k, fmt.Sprint(rnd.Intn(3)))
	r.Time = int64(rnd.Intn(10))
	return r
}

// someRecords increase, with gaps here and there.
func someRecords(rnd *rand.Rand, n int, next int64) []rec.At {
	var l []rec.At
	for range n {
		if rnd.Intn(4) == 0 {
			next += int64(rnd.Intn(3))
		}
		l = append(l, someRecord(rnd, next))
		next++
	}
	return l
}
