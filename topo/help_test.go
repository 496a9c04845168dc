package topo_test

import (
	"encoding/binary"
	"fmt"
	"hash/crc32"
	"math/rand"
	"reflect"
	"slices"
	"strings"
	"testing"

	"towpath/api"
	"towpath/expr"
	"towpath/topo"
)

// The calls keep the signatures that the chapter lists.
var (
	_ func(topo.Table) (int, api.Errno)           = topo.Check
	_ func(t topo.Table, node int, arm int) []int = topo.Kids
	_ func(topo.Table) ([]byte, api.Errno)        = topo.Encode
	_ func([]byte) (topo.Table, api.Errno)        = topo.Decode
	_ func(a, b topo.Table) bool                  = topo.Same
	_ func(topo.Table) topo.Table                 = topo.Copy
	_ struct{ From, On, To, Out string }          = topo.Row{}
	_ struct {
		Stores, Topics, Steps int
		Nodes                 []topo.Node
		Puncts                []topo.Punct
	} = topo.Table{}
	_ struct {
		Every        int64
		Store, Topic int
		A            []expr.Op
	} = topo.Punct{}
	_ struct {
		Kind, In, Arm, Store, Topic int
		Spread                      bool
		Size, Grace                 int64
		A, B                        []expr.Op
		Arms                        [][]expr.Op
		Rows                        []topo.Row
	} = topo.Node{}
	_ [10]int = [...]int{topo.Source: 0, topo.Filter: 1, topo.Map: 2, topo.Branch: 3, topo.Fold: 4, topo.Look: 5, topo.Flow: 6, topo.Window: 7, topo.Keep: 8, topo.Sink: 9}
)

// own are the fields of the kinds of nodes, beside Kind, In and Arm.
var own = [...]string{
	topo.Source: "",
	topo.Filter: "A",
	topo.Map:    "A B",
	topo.Branch: "Arms",
	topo.Fold:   "Store A",
	topo.Look:   "Store A B",
	topo.Flow:   "Store A Rows",
	topo.Window: "Store Size Grace A",
	topo.Keep:   "Store",
	topo.Sink:   "Topic Spread",
}

var names = strings.Fields("Store Topic Spread Size Grace A B Arms Rows")

const (
	least    = -1 << 63
	greatest = 1<<63 - 1
)

func prog(text string) []expr.Op {
	p, at, err := expr.Parse(text)
	if err != api.OK {
		panic(fmt.Sprint(text, at, err))
	}
	return p
}

// whole is a valid table with nodes of all kinds, and puncts.
func whole() topo.Table {
	return topo.Table{Stores: 3, Topics: 2, Steps: 100,
		Nodes: []topo.Node{
			{Kind: topo.Source, In: -1},
			{Kind: topo.Filter, In: 0, A: prog("value is")},
			{Kind: topo.Map, In: 1, A: prog(`key "x" cat`), B: prog("-7")},
			{Kind: topo.Branch, In: 2, Arms: [][]expr.Op{prog("1"), prog("0 when:2")}},
			{Kind: topo.Fold, In: 3, Arm: 0, Store: 2, A: prog("old num 0 else 1 add")},
			{Kind: topo.Look, In: 3, Arm: 1, Store: 1, A: prog("key"), B: prog("side")},
			{Kind: topo.Flow, In: 3, Arm: 2, Store: 0, A: prog("value"), Rows: []topo.Row{{"", "go", "on", "out"}, {"on", "go", "", ""}}},
			{Kind: topo.Window, In: 0, Store: 2, Size: 300, Grace: 40, A: prog("old")},
			{Kind: topo.Keep, In: 7, Store: 1},
			{Kind: topo.Sink, In: 8, Topic: 1, Spread: true},
			{Kind: topo.Sink, In: 4, Topic: 0},
		},
		Puncts: []topo.Punct{{Every: 5, Store: 1, Topic: 0, A: prog("value now text cat")}, {Every: 1000, Store: 2, Topic: 1, A: prog("none")}},
	}
}

// clone is a copy, by the test's own means.
func clone(t topo.Table) topo.Table {
	return cloned(reflect.ValueOf(t)).Interface().(topo.Table)
}

func cloned(v reflect.Value) reflect.Value {
	c := reflect.New(v.Type()).Elem()
	c.Set(v)
	switch v.Kind() {
	case reflect.Slice:
		if !v.IsNil() {
			c.Set(reflect.MakeSlice(v.Type(), v.Len(), v.Len()))
			for i := range v.Len() {
				c.Index(i).Set(cloned(v.Index(i)))
			}
		}
	case reflect.Struct:
		for i := range v.NumField() {
			c.Field(i).Set(cloned(v.Field(i)))
		}
	}
	return c
}

// tell is a table as a text, in which nil and empty are alike.
func tell(t topo.Table) string { return fmt.Sprintf("%+v", t) }

// set gives a field of a node a value.
func set(n *topo.Node, name string, value any) {
	f := reflect.ValueOf(n).Elem().FieldByName(name)
	f.Set(reflect.ValueOf(value).Convert(f.Type()))
}

// with is a copy with a field of a node set.
func with(t topo.Table, node int, name string, value any) topo.Table {
	c := clone(t)
	set(&c.Nodes[node], name, value)
	return c
}

func within(n, least, most int64) bool { return least <= n && n <= most }

func sound(p []expr.Op) bool { return expr.Check(p...) == api.OK }

// model is Check by the chapter's words.
func model(t topo.Table) (int, api.Errno) {
	if !within(int64(t.Stores), 0, 8) || !within(int64(t.Topics), 0, 4) || !within(int64(t.Steps), 1, 4096) || len(t.Nodes) < 1 || len(t.Nodes) > 24 || len(t.Puncts) > 4 {
		return -1, api.ErrTable
	}
	for i, n := range t.Nodes {
		if n.Kind < 0 || n.Kind > 9 || !placed(t, i) || !filled(t, n) {
			return i, api.ErrTable
		}
	}
	for i, p := range t.Puncts {
		if !within(p.Every, 1, api.MaxTime) || !within(int64(p.Store), 0, int64(t.Stores)-1) || !within(int64(p.Topic), 0, int64(t.Topics)-1) || !sound(p.A) {
			return len(t.Nodes) + i, api.ErrTable
		}
	}
	return 0, api.OK
}

func placed(t topo.Table, i int) bool {
	n := t.Nodes[i]
	if (n.Kind == topo.Source) != (i == 0) {
		return false
	}
	if i == 0 {
		return n.In == -1 && n.Arm == 0
	}
	if n.In < 0 || n.In >= i || t.Nodes[n.In].Kind == topo.Sink {
		return false
	}
	arms := 0
	if t.Nodes[n.In].Kind == topo.Branch {
		arms = len(t.Nodes[n.In].Arms)
	}
	return n.Arm >= 0 && n.Arm <= arms
}

func filled(t topo.Table, n topo.Node) bool {
	has := strings.Fields(own[n.Kind])
	ok := true
	for _, name := range names {
		f := reflect.ValueOf(n).FieldByName(name)
		if !slices.Contains(has, name) {
			ok = ok && (f.IsZero() || f.Kind() == reflect.Slice && f.Len() == 0)
			continue
		}
		switch name {
		case "Store":
			ok = ok && within(f.Int(), 0, int64(t.Stores)-1)
		case "Topic":
			ok = ok && within(f.Int(), 0, int64(t.Topics)-1)
		case "Size":
			ok = ok && within(f.Int(), 1, 1<<40)
		case "Grace":
			ok = ok && within(f.Int(), 0, 1<<40)
		case "A", "B":
			p := f.Interface().([]expr.Op)
			absent := len(p) == 0 && (n.Kind == topo.Map && len(n.A)+len(n.B) > 0 || n.Kind == topo.Look && name == "A")
			ok = ok && (absent || sound(p))
		case "Arms":
			ok = ok && within(int64(len(n.Arms)), 1, 4)
			for _, p := range n.Arms {
				ok = ok && sound(p)
			}
		case "Rows":
			ok = ok && within(int64(len(n.Rows)), 1, 32)
			states := map[[2]string]int{}
			for _, r := range n.Rows {
				states[[2]string{r.From, r.On}]++
				ok = ok && states[[2]string{r.From, r.On}] == 1 && max(len(r.From), len(r.On), len(r.To), len(r.Out)) <= 64
			}
		}
	}
	return ok
}

// part is a piece of an encoding: a number (u), how many elements follow (c), a signed number (n), a flag (f), a string (s), or In + 1 (i).
type part struct {
	what byte
	b    []byte
}

// parts are how the chapter has a table encoded, whether it is valid or not.
func parts(t topo.Table) []part {
	var l []part
	u := func(ns ...int) {
		for _, n := range ns {
			l = append(l, part{'u', uint(uint64(n))})
		}
	}
	count := func(n int) { l = append(l, part{'c', uint(uint64(n))}) }
	text := func(ss ...string) {
		for _, s := range ss {
			l = append(l, part{'s', append(uint(uint64(len(s))), s...)})
		}
	}
	program := func(p []expr.Op) {
		count(len(p))
		for _, o := range p {
			u(o.Code)
			l = append(l, part{'n', binary.AppendVarint(nil, o.N)})
			text(o.S)
		}
	}
	u(t.Stores, t.Topics, t.Steps)
	count(len(t.Nodes))
	for _, n := range t.Nodes {
		u(n.Kind)
		l = append(l, part{'i', uint(uint64(n.In + 1))})
		u(n.Arm, n.Store, n.Topic)
		l = append(l, part{'f', []byte{0}})
		if n.Spread {
			l[len(l)-1].b[0] = 1
		}
		u(int(n.Size), int(n.Grace))
		program(n.A)
		program(n.B)
		count(len(n.Arms))
		for _, p := range n.Arms {
			program(p)
		}
		count(len(n.Rows))
		for _, r := range n.Rows {
			text(r.From, r.On, r.To, r.Out)
		}
	}
	count(len(t.Puncts))
	for _, p := range t.Puncts {
		u(int(p.Every), p.Store, p.Topic)
		program(p.A)
	}
	return l
}

func uint(n uint64) []byte { return binary.AppendUvarint(nil, n) }

func joined(l []part) []byte {
	var b []byte
	for _, p := range l {
		b = append(b, p.b...)
	}
	return b
}

func body(t topo.Table) []byte { return joined(parts(t)) }

// sealed is a frame, by the library's checksum.
func sealed(body []byte) []byte {
	b := binary.LittleEndian.AppendUint32(nil, uint32(len(body)))
	b = append(b, body...)
	return binary.LittleEndian.AppendUint32(b, crc32.ChecksumIEEE(b))
}

// said reports whether a table can be encoded: In is the only number of it that may be -1.
func said(t topo.Table) bool {
	ok := true
	number := func(n int64) { ok = ok && within(n, 0, 1<<41-1) }
	codes := func(p []expr.Op) {
		for _, o := range p {
			number(int64(o.Code))
		}
	}
	number(int64(t.Stores))
	number(int64(t.Topics))
	number(int64(t.Steps))
	for _, n := range t.Nodes {
		for _, v := range []int64{int64(n.Kind), int64(n.In + 1), int64(n.Arm), int64(n.Store), int64(n.Topic), n.Size, n.Grace} {
			number(v)
		}
		codes(n.A)
		codes(n.B)
		for _, p := range n.Arms {
			codes(p)
		}
	}
	for _, p := range t.Puncts {
		number(p.Every)
		number(int64(p.Store))
		number(int64(p.Topic))
		codes(p.A)
	}
	return ok && len(body(t)) <= api.MaxBody
}

// check: Check finds this of a table, and so do Encode and Decode. The table stays as it is.
func check(t *testing.T, what string, x topo.Table, at int, want api.Errno) {
	t.Helper()
	before := tell(x)
	if i, err := topo.Check(x); i != at || err != want {
		t.Errorf("%s: Check: %d, %d, not %d, %d", what, i, err, at, want)
	}
	if i, err := model(x); i != at || err != want {
		t.Errorf("%s: a wrong test: %d, %d, not %d, %d", what, i, err, at, want)
	}
	long := want == api.OK && len(body(x)) > api.MaxBody
	b, err := topo.Encode(x)
	switch {
	case long && (err != api.ErrLong || len(b) != 0):
		t.Errorf("%s: Encode: %.100x, %d, not ErrLong", what, b, err)
	case !long && (err != want || want != api.OK && len(b) != 0):
		t.Errorf("%s: Encode: %.100x, %d, not %d", what, b, err, want)
	case !long && want == api.OK && string(b) != string(sealed(body(x))):
		t.Errorf("%s: Encode: %.100x", what, b)
	}
	if said(x) {
		y, err := topo.Decode(sealed(body(x)))
		told := tell(topo.Table{})
		if want == api.OK {
			told = before
		}
		if err != want || tell(y) != told {
			t.Errorf("%s: Decode: %.200s, %d, not %d", what, tell(y), err, want)
		}
	}
	if tell(x) != before {
		t.Errorf("%s: it is another one: %.200s", what, tell(x))
	}
}

// valid: a table is.
func valid(t *testing.T, what string, x topo.Table) {
	t.Helper()
	check(t, what, x, 0, api.OK)
}

// invalid: a table is not, at this place of it.
func invalid(t *testing.T, what string, x topo.Table, at int) {
	t.Helper()
	check(t, what, x, at, api.ErrTable)
}

// undecoded: a body is none of a table (ErrForm), or of one that is not valid (ErrTable).
func undecoded(t *testing.T, what string, b []byte, want api.Errno) {
	t.Helper()
	b = sealed(b)
	before := slices.Clone(b)
	if x, err := topo.Decode(b); err != want || tell(x) != tell(topo.Table{}) {
		t.Errorf("%s: Decode(%.100x): %.200s, %d, not %d", what, b, tell(x), err, want)
	}
	if !slices.Equal(b, before) {
		t.Errorf("%s: Decode changes the bytes", what)
	}
}

// anyProgram is valid.
func anyProgram(rnd *rand.Rand) []expr.Op {
	p := make([]expr.Op, 1+rnd.Intn(4))
	for i := range p {
		switch c := 1 + rnd.Intn(37); c {
		case 1:
			p[i] = expr.Op{Code: 1, N: rnd.Int63() >> rnd.Intn(63) * int64(1-2*rnd.Intn(2))}
		case 2:
			p[i] = expr.Op{Code: 2, S: anyText(rnd, 5)}
		case 36, 37:
			p[i] = expr.Op{Code: c, N: int64(rnd.Intn(len(p) + 1))}
		default:
			p[i] = expr.Op{Code: c}
		}
	}
	return p
}

func anyText(rnd *rand.Rand, most int) string {
	b := make([]byte, rnd.Intn(most+1))
	for i := range b {
		b[i] = byte(rnd.Intn(256))
	}
	return string(b)
}

// anyTable is valid.
func anyTable(rnd *rand.Rand) topo.Table {
	x := topo.Table{Stores: 1 + rnd.Intn(8), Topics: 1 + rnd.Intn(4), Steps: 1 + rnd.Intn(4096), Nodes: []topo.Node{{In: -1}}}
	for i := 1; i < 1+rnd.Intn(24); i++ {
		n := topo.Node{Kind: 1 + rnd.Intn(9), In: rnd.Intn(i)}
		above := x.Nodes[n.In]
		if above.Kind == topo.Sink {
			n.In = 0
			above = x.Nodes[0]
		}
		n.Arm = rnd.Intn(len(above.Arms) + 1)
		for _, name := range strings.Fields(own[n.Kind]) {
			switch name {
			case "Store":
				n.Store = rnd.Intn(x.Stores)
			case "Topic":
				n.Topic = rnd.Intn(x.Topics)
			case "Spread":
				n.Spread = rnd.Intn(2) == 0
			case "Size":
				n.Size = 1 + rnd.Int63n(api.MaxTime)
			case "Grace":
				n.Grace = rnd.Int63n(api.MaxTime + 1)
			case "A":
				if n.A = anyProgram(rnd); n.Kind == topo.Look && rnd.Intn(2) == 0 {
					n.A = nil
				}
			case "B":
				if n.B = anyProgram(rnd); n.Kind == topo.Map && rnd.Intn(3) == 0 {
					n.B = nil
				} else if n.Kind == topo.Map && rnd.Intn(3) == 0 {
					n.A = nil
				}
			case "Arms":
				for range 1 + rnd.Intn(4) {
					n.Arms = append(n.Arms, anyProgram(rnd))
				}
			case "Rows":
				for j := range 1 + rnd.Intn(4) {
					n.Rows = append(n.Rows, topo.Row{From: fmt.Sprint(j) + anyText(rnd, 6), On: anyText(rnd, 2), To: anyText(rnd, 64), Out: anyText(rnd, 3)})
				}
			}
		}
		x.Nodes = append(x.Nodes, n)
	}
	for range rnd.Intn(5) {
		x.Puncts = append(x.Puncts, topo.Punct{Every: 1 + rnd.Int63n(api.MaxTime), Store: rnd.Intn(x.Stores), Topic: rnd.Intn(x.Topics), A: anyProgram(rnd)})
	}
	return x
}
