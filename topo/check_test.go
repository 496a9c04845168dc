package topo_test

import (
	"fmt"
	"math/rand"
	"reflect"
	"slices"
	"strings"
	"testing"

	"towpath/api"
	"towpath/expr"
	"towpath/topo"
)

// The chapter's examples.
func TestExamples(t *testing.T) {
	x := topo.Table{Steps: 9, Nodes: []topo.Node{{In: -1}}}
	valid(t, "a Source", x)
	b, err := topo.Encode(x)
	if want := "\x11\x00\x00\x00\x00\x00\x09\x01" + strings.Repeat("\x00", 13); len(b) != 25 || string(b[:21]) != want || err != api.OK {
		t.Errorf("a Source: %x, %d", b, err)
	}
	x.Topics = 1
	x.Nodes = append(x.Nodes, topo.Node{Kind: topo.Sink})
	valid(t, "and a Sink", x)
	x.Nodes[1].In = 1
	invalid(t, "below itself", x, 1)
	valid(t, "all kinds", whole())
}

// P20.1: the numbers of a table, and how many nodes and puncts it has.
func TestSizes(t *testing.T) {
	one := topo.Table{Steps: 9, Nodes: []topo.Node{{In: -1}}}
	numbers := []int{least, -1 << 32, -1, 0, 1, 3, 4, 5, 7, 8, 9, 100, 4095, 4096, 4097, 1 << 32, 1<<32 + 1, 1<<41 - 1, greatest}
	for name, span := range map[string][2]int{"Stores": {0, 8}, "Topics": {0, 4}, "Steps": {1, 4096}} {
		for _, n := range numbers {
			x := clone(one)
			reflect.ValueOf(&x).Elem().FieldByName(name).SetInt(int64(n))
			what := fmt.Sprint(name, " ", n)
			if span[0] <= n && n <= span[1] {
				valid(t, what, x)
				continue
			}
			invalid(t, what, x, -1)
			x.Nodes[0].In = 5
			invalid(t, what+", ahead of a node", x, -1)
			x.Nodes[0].In = -1
			x.Puncts = []topo.Punct{{}}
			invalid(t, what+", ahead of a punct", x, -1)
		}
	}
	for k := range 60 {
		x := clone(one)
		x.Stores = 1
		x.Nodes = slices.Repeat([]topo.Node{{Kind: topo.Keep}}, k)
		if k > 0 {
			x.Nodes[0] = topo.Node{In: -1}
		}
		if what := fmt.Sprint(k, " nodes"); 1 <= k && k <= 24 {
			valid(t, what, x)
		} else {
			invalid(t, what, x, -1)
		}
	}
	x := whole()
	for k := range 20 {
		x.Puncts = slices.Repeat(whole().Puncts, 10)[:k]
		if what := fmt.Sprint(k, " puncts"); k <= 4 {
			valid(t, what, x)
		} else {
			invalid(t, what, x, -1)
		}
	}
	invalid(t, "nothing", topo.Table{}, -1)
	invalid(t, "no nodes", topo.Table{Steps: 1}, -1)
	many := clone(one)
	many.Nodes = append(many.Nodes, make([]topo.Node, 100000)...)
	invalid(t, "many nodes", many, -1)
}

// P20.1: a node's kind, and where it stands.
func TestPlaces(t *testing.T) {
	for _, kind := range []int{least, -1 << 32, -9, -1, 10, 11, 256, 1 << 32, 1<<32 + 8, 1<<41 - 1, greatest} {
		for i := range whole().Nodes {
			invalid(t, fmt.Sprint("kind ", kind), with(whole(), i, "Kind", kind), i)
		}
	}
	bare := topo.Table{Stores: 1, Topics: 1, Steps: 1, Nodes: []topo.Node{{In: -1}, {Kind: topo.Keep}, {Kind: topo.Sink, In: 1}, {Kind: topo.Branch, Arms: [][]expr.Op{prog("1"), prog("1")}}, {Kind: topo.Keep, In: 3}, {Kind: topo.Keep, In: 4}}}
	valid(t, "bare", bare)
	for kind := 1; kind <= 9; kind++ {
		invalid(t, fmt.Sprint("first of kind ", kind), with(bare, 0, "Kind", kind), 0)
		x := with(whole(), 0, "In", 0)
		x.Nodes = x.Nodes[1:]
		x.Nodes[0] = topo.Node{Kind: kind, In: -1}
		invalid(t, fmt.Sprint("first of kind ", kind), x, 0)
	}
	for i := 1; i < 6; i++ {
		invalid(t, fmt.Sprint("another Source at ", i), with(bare, i, "Kind", topo.Source), i)
		x := clone(bare)
		x.Nodes[i] = topo.Node{In: -1}
		invalid(t, fmt.Sprint("the same Source at ", i), x, i)
		x.Nodes[i] = topo.Node{}
		invalid(t, fmt.Sprint("a Source below one at ", i), x, i)
	}
	for i := range 6 {
		for _, in := range []int{least, -1 << 32, -2, -1, 0, 1, 2, 3, 4, 5, 6, 7, 1 << 32, 1<<32 + 1, 1<<41 - 2, greatest} {
			x := with(bare, i, "In", in)
			if what := fmt.Sprint("In of node ", i, ": ", in); i == 0 && in == -1 || 0 <= in && in < i && in != 2 {
				valid(t, what, x)
			} else {
				invalid(t, what, x, i)
			}
		}
		for _, arm := range []int{least, -1 << 32, -2, -1, 0, 1, 2, 3, 4, 5, 1 << 32, 1<<41 - 1, greatest} {
			x := with(bare, i, "Arm", arm)
			if what := fmt.Sprint("Arm of node ", i, ": ", arm); arm == 0 || i == 4 && 0 <= arm && arm <= 2 {
				valid(t, what, x)
			} else {
				invalid(t, what, x, i)
			}
		}
	}
	for arms := 1; arms <= 4; arms++ {
		x := clone(bare)
		x.Nodes[3].Arms = slices.Repeat([][]expr.Op{prog("1")}, arms)
		for arm := range 7 {
			x.Nodes[4].Arm = arm
			if what := fmt.Sprint("arm ", arm, " of ", arms); arm <= arms {
				valid(t, what, x)
			} else {
				invalid(t, what, x, 4)
			}
		}
	}
}

// values are what each field is set to.
func values() map[string][]any {
	long := slices.Repeat(prog("1"), 64)
	programs := []any{[]expr.Op(nil), []expr.Op{}, prog("1"), long, append(slices.Clone(long), long[0]), []expr.Op{{}}, []expr.Op{{Code: 38}}, []expr.Op{{Code: 1, S: "a"}}, []expr.Op{{Code: 36, N: 2}}, []expr.Op{{Code: 2, S: strings.Repeat("x", 1024)}}, []expr.Op{{Code: 2, S: strings.Repeat("x", 1025)}}}
	counts := []any{least, -1 << 32, -2, -1, 0, 1, 2, 3, 4, 7, 8, 9, 1 << 32, 1<<41 - 1, greatest}
	times := []any{least, -1, 0, 1, 2, api.MaxTime - 1, api.MaxTime, api.MaxTime + 1, 1<<41 - 1, greatest}
	var arms []any
	for k := range 8 {
		arms = append(arms, slices.Repeat([][]expr.Op{prog("1")}, k))
	}
	for k := range 4 {
		for _, p := range programs {
			l := slices.Repeat([][]expr.Op{prog("1")}, 4)
			l[k] = p.([]expr.Op)
			arms = append(arms, l)
		}
	}
	return map[string][]any{"Store": counts, "Topic": counts, "Spread": {false, true}, "Size": times, "Grace": times, "A": programs, "B": programs, "Arms": append(arms, [][]expr.Op(nil), [][]expr.Op{nil}), "Rows": someRows()}
}

// someRows are lists of rows, some of which may not be.
func someRows() []any {
	var l []any
	for _, k := range []int{0, 1, 2, 31, 32, 33, 100} {
		rows := make([]topo.Row, k)
		for i := range rows {
			rows[i] = topo.Row{From: fmt.Sprint(i)}
		}
		l = append(l, rows)
	}
	l = append(l, []topo.Row(nil),
		[]topo.Row{{"a", "b", "c", "d"}, {"a", "b", "c", "d"}},
		[]topo.Row{{"a", "b", "c", "d"}, {"a", "b", "", ""}},
		[]topo.Row{{}, {}},
		[]topo.Row{{"a", "b", "c", "d"}, {"b", "a", "c", "d"}},
		[]topo.Row{{"a", "b", "c", "d"}, {"a", "c", "c", "d"}, {"c", "b", "c", "d"}},
		[]topo.Row{{"ab", "", "c", "d"}, {"a", "b", "c", "d"}, {"", "ab", "c", "d"}},
		[]topo.Row{{"a", "b", "", ""}, {"x", "y", "", ""}, {"a", "b", "z", ""}},
		[]topo.Row{{"x", "y", "", ""}, {"a", "b", "", ""}, {"a", "b", "z", ""}})
	for i := range 4 {
		for _, size := range []int{63, 64, 65, 300} {
			for at := range 2 {
				rows := []topo.Row{{"a", "b", "c", "d"}, {"e", "f", "g", "h"}}
				reflect.ValueOf(&rows[at]).Elem().Field(i).SetString(strings.Repeat("\xff", size))
				l = append(l, rows)
			}
		}
	}
	return l
}

// P20.1: each kind of node with each field zero, within its bounds, at them and beyond; the fields that it has, and those that it has not.
func TestFields(t *testing.T) {
	tally := map[string]int{}
	for name, l := range values() {
		for i, n := range whole().Nodes {
			for _, v := range l {
				x := with(whole(), i, name, v)
				at, err := model(x)
				if err != api.OK && at != i && !(name == "Arms" && at > i) {
					t.Fatal(name, i, at)
				}
				check(t, fmt.Sprintf("%s of kind %d: %.60v", name, n.Kind, v), x, at, err)
				tally[fmt.Sprint(err == api.OK)]++
				f := reflect.ValueOf(v)
				zero := f.IsZero() || f.Kind() == reflect.Slice && f.Len() == 0
				if mine := strings.Contains(" "+own[n.Kind]+" ", " "+name+" "); !mine && (err == api.OK) != zero {
					t.Errorf("a wrong test: %s of kind %d: %v", name, n.Kind, v)
				}
			}
		}
	}
	if tally["true"] < 150 || tally["false"] < 1000 {
		t.Error(tally)
	}
}

// P20.1: which programs may be absent.
func TestAbsent(t *testing.T) {
	for _, none := range [][]expr.Op{nil, {}} {
		for i, n := range whole().Nodes {
			for _, name := range strings.Fields("A B") {
				if !strings.Contains(" "+own[n.Kind]+" ", " "+name+" ") {
					continue
				}
				x := with(whole(), i, name, none)
				if n.Kind == topo.Map || n.Kind == topo.Look && name == "A" {
					valid(t, fmt.Sprint(name, " absent of kind ", n.Kind), x)
				} else {
					invalid(t, fmt.Sprint(name, " absent of kind ", n.Kind), x, i)
				}
			}
		}
		invalid(t, "a Map of nothing", with(with(whole(), 2, "A", none), 2, "B", none), 2)
		invalid(t, "a Look of nothing", with(with(whole(), 5, "A", none), 5, "B", none), 5)
		x := whole()
		x.Puncts[1].A = none
		invalid(t, "a punct of nothing", x, 12)
	}
	bad := []expr.Op{{}}
	for _, c := range []struct {
		node int
		a, b []expr.Op
	}{{2, bad, nil}, {2, nil, bad}, {2, bad, prog("1")}, {2, prog("1"), bad}, {5, bad, prog("1")}, {5, prog("1"), bad}, {5, nil, bad}} {
		invalid(t, "one that is none", with(with(whole(), c.node, "A", c.a), c.node, "B", c.b), c.node)
	}
}

// P20.1: stores and topics that a table does not have.
func TestStoresAndTopics(t *testing.T) {
	x := whole()
	x.Puncts = nil
	for stores := range 9 {
		x.Stores = stores
		at := slices.IndexFunc(x.Nodes, func(n topo.Node) bool {
			return strings.Contains(own[n.Kind], "Store") && n.Store >= stores
		})
		if what := fmt.Sprint(stores, " stores"); at < 0 {
			valid(t, what, x)
		} else {
			invalid(t, what, x, at)
		}
	}
	x = whole()
	x.Puncts = nil
	x.Topics = 1
	invalid(t, "one topic", x, 9)
	x.Topics = 0
	x.Nodes[9].Topic = 0
	invalid(t, "no topic", x, 9)
	valid(t, "neither", topo.Table{Steps: 1, Nodes: []topo.Node{{In: -1}, {Kind: topo.Filter, A: prog("1")}}})
}

// P20.1: each field of a punct.
func TestPuncts(t *testing.T) {
	for i := range 2 {
		for name, l := range values() {
			if reflect.ValueOf(topo.Punct{}).FieldByName(name) == (reflect.Value{}) {
				continue
			}
			for _, v := range l {
				x := whole()
				f := reflect.ValueOf(&x.Puncts[i]).Elem().FieldByName(name)
				f.Set(reflect.ValueOf(v).Convert(f.Type()))
				at, err := model(x)
				if err != api.OK && at != 11+i {
					t.Fatal(name, at)
				}
				check(t, fmt.Sprintf("%s of punct %d: %.60v", name, i, v), x, at, err)
			}
		}
		for _, every := range []int64{least, -1, 0, 1, 2, api.MaxTime, api.MaxTime + 1, greatest} {
			x := whole()
			x.Puncts[i].Every = every
			if what := fmt.Sprint("Every ", every); 1 <= every && every <= 1<<40 {
				valid(t, what, x)
			} else {
				invalid(t, what, x, 11+i)
			}
		}
	}
	for _, c := range [][3]int{{1, 1, 0}, {0, 1, 1}, {1, 0, 1}, {0, 0, 1}} {
		x := topo.Table{Stores: c[0], Topics: c[1], Steps: 1, Nodes: []topo.Node{{In: -1}}, Puncts: []topo.Punct{{Every: 1, A: prog("1")}}}
		if c[2] == 0 {
			valid(t, "a punct", x)
		} else {
			invalid(t, "a punct without a store or a topic", x, 1)
		}
	}
}

// P20.1: of several faults the first place is told: the table, the nodes, the puncts.
func TestFirstFault(t *testing.T) {
	for mask := 1; mask < 1<<14; mask++ {
		if mask&(mask-1) != 0 && mask%7 != 0 {
			continue
		}
		x := whole()
		want := -2
		for k := range 14 {
			if mask>>k&1 == 0 {
				continue
			}
			if want == -2 {
				want = k - 1
			}
			switch {
			case k == 0:
				x.Steps = 0
			case k <= 11:
				x.Nodes[k-1].Size = -1
			default:
				x.Puncts[k-12].Every = 0
			}
		}
		invalid(t, fmt.Sprintf("faults %b", mask), x, want)
	}
}

// P20.2: the kids of nodes and arms, and of what is none.
func TestKids(t *testing.T) {
	x := whole()
	for _, c := range []struct {
		node, arm int
		kids      []int
	}{
		{0, 0, []int{1, 7}}, {1, 0, []int{2}}, {2, 0, []int{3}}, {3, 0, []int{4}}, {3, 1, []int{5}}, {3, 2, []int{6}}, {3, 3, nil}, {4, 0, []int{10}}, {7, 0, []int{8}}, {8, 0, []int{9}},
		{9, 0, nil}, {10, 0, nil}, {11, 0, nil}, {24, 0, nil}, {-2, 0, nil}, {-1, 1, nil}, {0, 1, nil}, {0, -1, nil}, {3, -1, nil}, {3, 4, nil}, {greatest, 0, nil}, {least, 0, nil}, {0, greatest, nil}, {0, least, nil}, {1 << 32, 0, nil}, {3, 1 << 32, nil},
	} {
		if l := topo.Kids(x, c.node, c.arm); !slices.Equal(l, c.kids) {
			t.Errorf("Kids(%d, %d): %v, not %v", c.node, c.arm, l, c.kids)
		}
	}
	if l := topo.Kids(topo.Table{}, 0, 0); len(l) != 0 {
		t.Error("Kids of nothing:", l)
	}
	wide := topo.Table{Nodes: append([]topo.Node{{In: -1}}, make([]topo.Node, 40)...)}
	l := topo.Kids(wide, 0, 0)
	if len(l) != 40 || !slices.IsSorted(l) || l[0] != 1 {
		t.Error("Kids of a table that is not valid:", l)
	}
	l[0] = 99
	if l := topo.Kids(wide, 0, 0); l[0] != 1 {
		t.Error("Kids share memory")
	}
	if tell(x) != tell(whole()) {
		t.Error("Kids changes the table")
	}
}

// P20.5: each node but the first one is the kid of one node and arm, ahead of it.
func TestTree(t *testing.T) {
	for seed := range int64(1000) {
		x := anyTable(rand.New(rand.NewSource(seed)))
		above := map[int]int{}
		for i, n := range x.Nodes {
			for arm := range len(n.Arms) + 1 {
				for _, kid := range topo.Kids(x, i, arm) {
					if above[kid]++; kid <= i || x.Nodes[kid].In != i || x.Nodes[kid].Arm != arm {
						t.Fatal("seed", seed, "kid", kid, "of", i, arm)
					}
				}
			}
		}
		for i := range x.Nodes {
			if above[i] != min(i, 1) {
				t.Fatal("seed", seed, "node", i, "is a kid", above[i], "times")
			}
		}
	}
}

// P20.1, P20.6: tables by chance; without a node that is no parent; and with something of them changed.
func TestCheckByChance(t *testing.T) {
	vs := values()
	vs["In"], vs["Arm"], vs["Kind"] = []any{-1, 0, 1, 2, 3, 4, 7, 24}, []any{-1, 0, 1, 2, 3, 4, 5}, []any{0, 1, 2, 3, 4, 5, 6, 7, 8, 9, 10, -1}
	all := append([]string{"In", "Arm", "Kind"}, names...)
	tally := map[api.Errno]int{}
	for seed := range int64(1500) {
		rnd := rand.New(rand.NewSource(seed))
		x := anyTable(rnd)
		what := fmt.Sprint("seed ", seed)
		valid(t, what, x)
		i := rnd.Intn(len(x.Nodes))
		if i > 0 && !slices.ContainsFunc(x.Nodes, func(n topo.Node) bool { return n.In == i }) {
			y := clone(x)
			y.Nodes = slices.Delete(y.Nodes, i, i+1)
			for j := range y.Nodes {
				if y.Nodes[j].In > i {
					y.Nodes[j].In--
				}
			}
			valid(t, what+", without a node", y)
		}
		for range 3 {
			name := all[rnd.Intn(len(all))]
			x = with(x, rnd.Intn(len(x.Nodes)), name, vs[name][rnd.Intn(len(vs[name]))])
			at, err := model(x)
			check(t, what+", changed", x, at, err)
			tally[err]++
		}
		if t.Failed() {
			t.FailNow()
		}
	}
	if tally[api.OK] < 300 || tally[api.ErrTable] < 300 {
		t.Error(tally)
	}
}
