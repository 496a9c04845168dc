package topo_test

import (
	"fmt"
	"math/rand"
	"reflect"
	"testing"

	"towpath/api"
	"towpath/expr"
	"towpath/topo"
)

// same: whether two tables are equal, whichever is first.
func same(t *testing.T, what string, a, b topo.Table, want bool) {
	t.Helper()
	before, behind := tell(a), tell(b)
	if topo.Same(a, b) != want || topo.Same(b, a) != want {
		t.Errorf("%s: Same: %v, %v, not %v", what, topo.Same(a, b), topo.Same(b, a), want)
	}
	if tell(a) != before || tell(b) != behind {
		t.Errorf("%s: Same changes a table", what)
	}
}

// leaves calls f for each number, string and flag of a value, and each list, with a way to it.
func leaves(way string, v reflect.Value, f func(way string, v reflect.Value)) {
	switch v.Kind() {
	case reflect.Struct:
		for i := range v.NumField() {
			leaves(way+"."+v.Type().Field(i).Name, v.Field(i), f)
		}
	case reflect.Slice:
		f(way, v)
		for i := range v.Len() {
			leaves(fmt.Sprintf("%s[%d]", way, i), v.Index(i), f)
		}
	default:
		f(way, v)
	}
}

// change gives a leaf another value: a list loses its last element, or has its first one.
func change(v reflect.Value) {
	switch v.Kind() {
	case reflect.Int, reflect.Int64:
		v.SetInt(v.Int() + 1)
	case reflect.Bool:
		v.SetBool(!v.Bool())
	case reflect.String:
		v.SetString(v.String() + "x")
	case reflect.Slice:
		if v.Len() > 0 {
			v.Set(v.Slice(0, v.Len()-1))
		} else {
			v.Set(reflect.MakeSlice(v.Type(), 1, 1))
		}
	}
}

// P20.2: equal tables, and such that differ in one field.
func TestSame(t *testing.T) {
	same(t, "all kinds", whole(), whole(), true)
	same(t, "nothing", topo.Table{}, topo.Table{}, true)
	same(t, "nothing and all", topo.Table{}, whole(), false)
	count := 0
	leaves("", reflect.ValueOf(whole()), func(string, reflect.Value) { count++ })
	if count < 200 {
		t.Fatal(count)
	}
	for i := range count {
		x, k := whole(), 0
		at := ""
		leaves("", reflect.ValueOf(&x).Elem(), func(way string, v reflect.Value) {
			if k == i {
				at = way
				change(v)
			}
			k++
		})
		same(t, at, whole(), x, false)
		same(t, at, clone(x), x, true)
		if c := topo.Copy(x); !topo.Same(c, x) || tell(c) != tell(x) {
			t.Errorf("Copy, %s: %s", at, tell(c))
		}
	}
}

// P20.2: nil and empty lists are equal, wherever they are.
func TestSameEmpty(t *testing.T) {
	bare := topo.Table{Nodes: []topo.Node{{}, {Arms: [][]expr.Op{nil, nil}}}, Puncts: []topo.Punct{{}}}
	empty := topo.Table{
		Nodes:  []topo.Node{{A: []expr.Op{}, B: []expr.Op{}, Arms: [][]expr.Op{}, Rows: []topo.Row{}}, {A: []expr.Op{}, Arms: [][]expr.Op{{}, {}}}},
		Puncts: []topo.Punct{{A: []expr.Op{}}},
	}
	same(t, "lists within", bare, empty, true)
	same(t, "lists", topo.Table{}, topo.Table{Nodes: []topo.Node{}, Puncts: []topo.Punct{}}, true)
	same(t, "an arm of nothing", bare, topo.Table{Nodes: []topo.Node{{}, {Arms: [][]expr.Op{nil}}}, Puncts: bare.Puncts}, false)
	same(t, "a node of nothing", topo.Table{}, topo.Table{Nodes: make([]topo.Node, 1)}, false)
	same(t, "a punct of nothing", topo.Table{}, topo.Table{Puncts: make([]topo.Punct, 1)}, false)
	for _, x := range []topo.Table{bare, empty, {}} {
		if c := topo.Copy(x); !topo.Same(c, x) {
			t.Error("Copy:", tell(c))
		}
	}
}

// scribble writes into all that can be reached from a table, and behind it.
func scribble(v reflect.Value) {
	switch v.Kind() {
	case reflect.Struct:
		for i := range v.NumField() {
			scribble(v.Field(i))
		}
	case reflect.Slice:
		full := v.Slice(0, v.Cap())
		for i := range full.Len() {
			scribble(full.Index(i))
		}
		for i := v.Len(); i < full.Len(); i++ {
			full.Index(i).SetZero()
		}
	default:
		change(v)
	}
}

// apart: what is written into either of two tables, or behind any list of one, is not seen in the other one, nor elsewhere in it.
func apart(t *testing.T, what string, make func() (a, b topo.Table)) {
	t.Helper()
	a, b := make()
	before := tell(b)
	scribble(reflect.ValueOf(&a).Elem())
	if tell(b) != before {
		t.Errorf("%s: the first one is written into: %s", what, tell(b))
	}
	a, b = make()
	before = tell(a)
	scribble(reflect.ValueOf(&b).Elem())
	if tell(a) != before {
		t.Errorf("%s: the second one is written into: %s", what, tell(a))
	}
	_, b = make()
	before = tell(b)
	leaves("", reflect.ValueOf(&b).Elem(), func(way string, v reflect.Value) {
		if v.Kind() == reflect.Slice {
			more := reflect.New(v.Type().Elem()).Elem()
			scribble(more)
			reflect.Append(v, more, more)
			if tell(b) != before {
				t.Errorf("%s: behind %s: %s", what, way, tell(b))
			}
		}
	})
}

// P20.2, rules 4 and 5: copies, and what is decoded, have memory of their own.
func TestMemory(t *testing.T) {
	apart(t, "Copy", func() (a, b topo.Table) {
		a = whole()
		return a, topo.Copy(a)
	})
	apart(t, "Copy with more memory", func() (a, b topo.Table) {
		a = whole()
		for i := range a.Nodes {
			n := &a.Nodes[i]
			n.A = append(make([]expr.Op, 0, 20), n.A...)
			n.Rows = append(make([]topo.Row, 0, 20), n.Rows...)
			n.Arms = append(make([][]expr.Op, 0, 20), n.Arms...)
		}
		a.Nodes = append(make([]topo.Node, 0, 40), a.Nodes...)
		return a, topo.Copy(a)
	})
	raw, _ := topo.Encode(whole())
	apart(t, "Decode", func() (a, b topo.Table) {
		a, _ = topo.Decode(raw)
		b, _ = topo.Decode(raw)
		return a, b
	})
	x, _ := topo.Decode(raw)
	for i := range raw {
		raw[i]++
	}
	if tell(x) != tell(whole()) {
		t.Error("Decode keeps the bytes:", tell(x))
	}
	y := whole()
	raw, _ = topo.Encode(y)
	again := string(raw)
	scribble(reflect.ValueOf(&y).Elem())
	if string(raw) != again {
		t.Error("Encode keeps the table")
	}
	for i := range raw {
		raw[i] = 0
	}
	if raw, err := topo.Encode(whole()); string(raw) != again || err != api.OK {
		t.Errorf("Encode again: %x, %d", raw, err)
	}
}

// P20.2, P20.4: tables by chance: copied, encoded, and one against the other.
func TestSameByChance(t *testing.T) {
	for seed := range int64(1000) {
		rnd := rand.New(rand.NewSource(seed))
		x, y := anyTable(rnd), anyTable(rnd)
		same(t, "two tables", x, y, tell(x) == tell(y))
		same(t, "a copy", x, topo.Copy(x), true)
		b, err := topo.Encode(x)
		z, e := topo.Decode(b)
		if err != api.OK || e != api.OK || tell(z) != tell(x) {
			t.Errorf("there and back: %d, %d, %s", err, e, tell(z))
		}
		same(t, "there and back", x, z, true)
		if t.Failed() {
			t.Fatal("seed", seed)
		}
	}
}
