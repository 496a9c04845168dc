package msg_test

import (
	"fmt"
	"reflect"
	"slices"
	"testing"

	"towpath/api"
	"towpath/msg"
	"towpath/offsets"
	"towpath/rec"
)

// P16.2: replies to each kind, to messages that may not be, and to replies.
func TestAnswer(t *testing.T) {
	for _, m := range some() {
		before := msg.Copy(m)
		head := msg.Head{Kind: m.Kind, Reply: true, From: 1, To: 101, Id: 300}
		if r := msg.Answer(m); !reflect.DeepEqual(plain(r), msg.Msg{Head: head}) {
			t.Errorf("%s: Answer: %+v", who(m), r)
		}
		for _, e := range []api.Errno{api.OK, api.ErrArg, api.ErrGeneration, 99, 100, -1, 1 << 40} {
			r := msg.Refuse(m, e)
			if !reflect.DeepEqual(plain(r), msg.Msg{Head: head, Err: e}) {
				t.Errorf("%s: Refuse with %d: %+v", who(m), e, r)
			}
			if e > 0 && e < 100 {
				alike(t, who(m)+": Refuse", r)
			}
		}
		if !reflect.DeepEqual(plain(m), plain(before)) {
			t.Errorf("%s has changed: %+v", who(m), m)
		}
		if r := msg.Answer(m); len(own(r)) == 0 {
			alike(t, who(m)+": Answer", r)
		}
	}
}

// differing are messages that differ from one in one thing.
func differing(m msg.Msg) map[string]msg.Msg {
	l := map[string]msg.Msg{}
	v := reflect.TypeOf(m)
	for i := range v.NumField() {
		name := v.Field(i).Name
		change := func(what string, change func(f reflect.Value)) {
			n := msg.Copy(m)
			change(reflect.ValueOf(&n).Elem().Field(i))
			l[name+what] = n
		}
		switch v.Field(i).Type.Kind() {
		case reflect.Struct: // the header, or the batch
			for j := range v.Field(i).Type.NumField() {
				if f := v.Field(i).Type.Field(j); f.Name != "L" {
					change(" "+f.Name, func(f reflect.Value) { bump(f.Field(j)) })
				}
			}
		case reflect.Slice:
		default:
			change("", bump)
		}
	}
	lists := func(what string, list func(n *msg.Msg) reflect.Value) {
		n := msg.Copy(m)
		k := list(&n).Len()
		list(&n).Set(reflect.Append(list(&n), reflect.Zero(list(&n).Type().Elem())))
		l[what+" and one more"] = n
		if k == 0 {
			return
		}
		n = msg.Copy(m)
		list(&n).Set(list(&n).Slice(0, k-1))
		l[what+" but one"] = n
		for _, at := range []int{0, k - 1} {
			for j := range leaves(list(&n).Type().Elem()) {
				n = msg.Copy(m)
				bump(leaf(list(&n).Index(at), j))
				l[fmt.Sprint(what, at, " ", j)] = n
			}
		}
	}
	lists("Ints", func(n *msg.Msg) reflect.Value { return field(n, "Ints") })
	lists("Rows", func(n *msg.Msg) reflect.Value { return field(n, "Rows") })
	lists("Commits", func(n *msg.Msg) reflect.Value { return field(n, "Commits") })
	lists("Batch.L", func(n *msg.Msg) reflect.Value { return reflect.ValueOf(&n.Batch.L).Elem() })
	return l
}

// leaves is how many fields a type has that are no structs, and leaf one of them.
func leaves(t reflect.Type) int {
	if t.Kind() != reflect.Struct {
		return 1
	}
	n := 0
	for i := range t.NumField() {
		n += leaves(t.Field(i).Type)
	}
	return n
}

func leaf(v reflect.Value, n int) reflect.Value {
	if v.Kind() != reflect.Struct {
		return v
	}
	for i := range v.NumField() {
		k := leaves(v.Field(i).Type())
		if n < k {
			return leaf(v.Field(i), n)
		}
		n -= k
	}
	panic("no such leaf")
}

func bump(f reflect.Value) {
	switch f.Kind() {
	case reflect.Bool:
		f.SetBool(!f.Bool())
	case reflect.String:
		f.SetString(f.String() + "x")
	default:
		f.SetInt(f.Int() + 1)
	}
}

// full is a message that has all there is, though it may not.
func full() msg.Msg {
	m := request(msg.Mark)
	for _, name := range names {
		m = with(m, name, usual(name))
	}
	return m
}

// P16.2: messages that differ in one field, in one element of a list, or in the length of one.
func TestSame(t *testing.T) {
	for _, m := range append(some(), full(), msg.Msg{}) {
		if !msg.Same(m, m) || !msg.Same(m, msg.Copy(m)) {
			t.Errorf("%s is not the same as itself", who(m))
		}
		l := differing(m)
		if len(l) < 5+1+13+6+4 {
			t.Error(len(l), "differences")
		}
		for what, n := range l {
			if msg.Same(m, n) || msg.Same(n, m) || !msg.Same(n, n) {
				t.Errorf("%s: the same, with another %s", who(m), what)
			}
		}
	}
	empty := msg.Msg{Ints: []int{}, Rows: []rec.At{}, Commits: []offsets.Commit{}, Batch: api.Batch{L: []api.Record{}}}
	if !msg.Same(empty, msg.Msg{}) || !msg.Same(msg.Msg{}, empty) || !msg.Same(msg.Copy(empty), msg.Msg{}) {
		t.Error("empty slices are not nil ones")
	}
	full := full()
	for _, name := range []string{"Ints", "Rows", "Commits"} {
		none := with(full, name, reflect.Zero(field(&full, name).Type()).Interface())
		if msg.Same(full, none) || msg.Same(none, full) {
			t.Error("the same, without", name)
		}
	}
	a, b := full, msg.Copy(full)
	slices.Reverse(b.Ints)
	if msg.Same(a, b) {
		t.Error("the same, in another order")
	}
}

// scribble writes into all slices of a message, and behind their ends.
func scribble(m *msg.Msg) {
	for i := range m.Ints {
		m.Ints[i] = -9
	}
	for i := range m.Rows {
		m.Rows[i] = rec.At{Offset: -9}
	}
	for i := range m.Commits {
		m.Commits[i] = offsets.Commit{Part: -9}
	}
	for i := range m.Batch.L {
		m.Batch.L[i] = api.Record{Key: "scribbled"}
	}
	_ = append(m.Ints, -9)
	_ = append(m.Rows, rec.At{Offset: -9})
	_ = append(m.Commits, offsets.Commit{Part: -9})
	_ = append(m.Batch.L, api.Record{Key: "scribbled"})
}

// P16.2 and rules 4 and 5: copies, encodings and decoded messages are written into; so are what they were made of.
func TestShared(t *testing.T) {
	for _, m := range append(some(), full()) {
		m.Ints = slices.Grow(m.Ints, 9)
		m.Rows = slices.Grow(m.Rows, 9)
		m.Commits = slices.Grow(m.Commits, 9)
		m.Batch.L = slices.Grow(m.Batch.L, 9)
		before := fmt.Sprintf("%+v", m)
		c := msg.Copy(m)
		if !msg.Same(c, m) || fmt.Sprintf("%+v", c) != before {
			t.Errorf("%s: Copy: %+v", who(m), c)
		}
		first, second := msg.Copy(m), msg.Copy(m)
		scribble(&first)
		if fmt.Sprintf("%+v", m) != before || fmt.Sprintf("%+v", second) != before {
			t.Errorf("%s: writing into a copy changes others", who(m))
		}
		if b, err := msg.Encode(m); err == api.OK {
			decoded(t, m, b)
		}
		msg.Same(m, c)
		msg.Valid(m)
		if fmt.Sprintf("%+v", m) != before || slices.Contains(m.Ints[:cap(m.Ints)], -9) {
			t.Errorf("%s has changed: %+v", who(m), m)
		}
		scribble(&m)
		if fmt.Sprintf("%+v", c) != before {
			t.Errorf("%s: writing into it changes its copy: %+v", who(m), c)
		}
	}
}

func decoded(t *testing.T, m msg.Msg, b []byte) {
	t.Helper()
	again, _ := msg.Encode(m)
	raw := string(b)
	one, _ := msg.Decode(b)
	two, _ := msg.Decode(b)
	if string(b) != raw {
		t.Errorf("%s: Decode has changed its bytes", who(m))
	}
	clear(b)
	scribble(&one)
	if !msg.Same(two, m) || string(again) != raw {
		t.Errorf("%s: results share memory: %+v", who(m), two)
	}
	if three, err := msg.Decode(again); err != api.OK || !msg.Same(three, m) {
		t.Errorf("%s: Decode again: %+v, %d", who(m), three, err)
	}
}
