package msg_test

import (
	"fmt"
	"math"
	"reflect"
	"slices"
	"strings"
	"testing"

	"towpath/api"
	"towpath/msg"
	"towpath/offsets"
	"towpath/rec"
)

// P16.1: each kind, as a request, as a reply, and as a reply with an error.
func TestKinds(t *testing.T) {
	for _, m := range some() {
		alike(t, who(m), m)
		for kind := range 14 {
			if other := with(m, "Kind", kind); kind == 0 || kind == 13 {
				refused(t, fmt.Sprint(who(m), " as kind ", kind), other, api.ErrArg)
			} else if other.Err != api.OK {
				alike(t, fmt.Sprint(who(m), " as kind ", kind), other)
			}
		}
		for _, kind := range []int{math.MinInt, -1, m.Kind + 256, 1<<32 + m.Kind, math.MaxInt} {
			refused(t, fmt.Sprint(who(m), " as kind ", kind), with(m, "Kind", kind), api.ErrArg)
		}
	}
}

// P16.1: the numbers of the header, and Err, at their bounds and beyond.
func TestHead(t *testing.T) {
	for _, m := range some() {
		for _, name := range []string{"From", "To", "Id"} {
			for _, n := range spans[name] {
				alike(t, fmt.Sprint(who(m), ": ", name, n), with(m, name, n))
			}
			for _, n := range far(spans[name]) {
				refused(t, fmt.Sprint(who(m), ": ", name, n), with(m, name, n), api.ErrArg)
			}
		}
		if !m.Reply {
			for _, e := range []api.Errno{math.MinInt, -1, 1, api.ErrBusy, 99, 100, math.MaxInt} {
				m.Err = e
				refused(t, who(m), m, api.ErrArg)
			}
			continue
		}
		bare := msg.Refuse(m, api.OK) // without fields
		bare.From, bare.To = m.From, m.To
		for _, e := range []api.Errno{1, 2, api.ErrZero, 98, 99} {
			bare.Err = e
			alike(t, who(bare), bare)
		}
		for _, e := range []api.Errno{math.MinInt, -1, 100, 1 << 32, math.MaxInt} {
			bare.Err = e
			refused(t, who(bare), bare, api.ErrArg)
		}
	}
}

// P16.1: each number of each kind, at its bounds and beyond.
func TestNumbers(t *testing.T) {
	for _, m := range some() {
		for _, name := range own(m) {
			if _, ok := spans[name]; !ok {
				continue
			}
			for _, n := range spans[name] {
				alike(t, fmt.Sprint(who(m), ": ", name, n), with(m, name, n))
			}
			for _, n := range far(spans[name]) {
				refused(t, fmt.Sprint(who(m), ": ", name, n), with(m, name, n), api.ErrArg)
			}
		}
	}
	least, most := msg.Msg{Head: msg.Head{Kind: msg.Fetch}, Most: 1}, msg.Msg{Head: msg.Head{Kind: msg.Fetch}, Most: 0}
	alike(t, "Most 1", least)
	refused(t, "Most 0", most, api.ErrArg)
}

// other is a value that a field has not, if it is not set.
func other(name string) []any {
	switch name {
	case "On":
		return []any{true}
	case "Name":
		return []any{"x", "\x00"}
	case "Ints":
		return []any{[]int{0}, []int{5}}
	case "Batch":
		return []any{usual(name), api.Batch{Base: 1}, api.Batch{Pid: 1}, api.Batch{Epoch: 1}, api.Batch{Seq: 1}, api.Batch{Kind: 1}, api.Batch{Kind: -1}, api.Batch{Time: 1}, api.Batch{L: []api.Record{{}}}}
	case "Rows":
		return []any{[]rec.At{{}}, usual(name)}
	case "Commits":
		return []any{[]offsets.Commit{{}}, usual(name)}
	}
	return []any{int64(1), int64(-1), int64(math.MinInt64)}
}

// P16.1: each field that a message of a kind may not have, set alone.
func TestOtherFields(t *testing.T) {
	for _, m := range some() {
		fields := own(m)
		for _, name := range names {
			if slices.Contains(fields, name) {
				continue
			}
			for _, v := range other(name) {
				refused(t, fmt.Sprintf("%s: %s %v", who(m), name, v), with(m, name, v), api.ErrArg)
			}
		}
		// Empty slices that are not nil are none.
		n := m
		for name, v := range map[string]any{"Ints": []int{}, "Rows": []rec.At{}, "Commits": []offsets.Commit{}, "Batch": api.Batch{L: []api.Record{}}} {
			if !slices.Contains(fields, name) {
				n = with(n, name, v)
			}
		}
		alike(t, who(m)+": empty slices", n)
	}
}

// P16.1: a field that may be zero, or empty, is one that is said.
func TestZeroFields(t *testing.T) {
	for _, m := range some() {
		for _, name := range own(m) {
			zero := with(m, name, reflect.Zero(field(&m, name).Type()).Interface())
			if name == "Most" || name == "Batch" {
				refused(t, who(m)+": no "+name, zero, api.ErrArg)
			} else {
				alike(t, who(m)+": no "+name, zero)
			}
		}
	}
}

func request(kind int) msg.Msg { return some()[3*(kind-1)] }

func reply(kind int) msg.Msg { return some()[3*(kind-1)+1] }

// P16.1: names of 24 and 25 bytes.
func TestName(t *testing.T) {
	for _, s := range []string{"", "x", "\x00\xff", strings.Repeat("n", 23), strings.Repeat("\xc3", 24)} {
		alike(t, fmt.Sprintf("name %q", s), with(request(msg.Init), "Name", s))
	}
	for _, n := range []int{25, 26, 127, 128, 300, 2000} {
		refused(t, fmt.Sprint("a name of ", n), with(request(msg.Init), "Name", strings.Repeat("n", n)), api.ErrArg)
	}
}

// P16.1: 300 and 301 numbers, each at its bounds and beyond, in any order.
func TestInts(t *testing.T) {
	for _, m := range []msg.Msg{request(msg.Join), reply(msg.Parts), request(msg.Add)} {
		for _, n := range []int{0, 1, 127, 128, 299, 300} {
			alike(t, fmt.Sprint(who(m), ": ", n, " numbers"), with(m, "Ints", make([]int, n)))
		}
		for _, n := range []int{301, 302, 1000} {
			refused(t, fmt.Sprint(who(m), ": ", n, " numbers"), with(m, "Ints", make([]int, n)), api.ErrArg)
		}
		for _, l := range [][]int{{0, 1023}, {1023, 0, 0, 1023}, {5, 4, 3, 4}} {
			alike(t, fmt.Sprint(who(m), ": ", l), with(m, "Ints", l))
		}
		for _, n := range far(spans["Part"]) {
			for _, l := range [][]int{{int(n)}, {0, int(n)}, {int(n), 1023}} {
				refused(t, fmt.Sprint(who(m), ": ", l), with(m, "Ints", l), api.ErrArg)
			}
		}
	}
}

func records(n int) []api.Record {
	var l []api.Record
	for i := range n {
		l = append(l, api.Record{Key: fmt.Sprint("k", i), Value: "v", Time: int64(i)})
	}
	return l
}

// P16.1: batches that may be, are markers, have a Base, or are not valid.
func TestBatch(t *testing.T) {
	long := strings.Repeat("x", api.MaxText)
	one := records(1)
	wide := slices.Repeat([]api.Record{{Key: long, Value: long, Time: api.MaxTime}, {Key: "y" + long[1:], Value: long}}, 32)
	for what, b := range map[string]api.Batch{
		"plain":           {L: one},
		"a producer's":    {Pid: 1, L: one},
		"a transaction's": {Kind: api.Part, Pid: 1, L: one},
		"64 records":      {L: records(64)},
		"all at an end":   {Kind: api.Part, Pid: api.MaxPid, Epoch: api.MaxEpoch, Seq: api.MaxSeq, Time: api.MaxTime, L: one},
		"long records":    {L: wide},
		"gone":            {L: []api.Record{{Key: "k", Gone: true}, {Gone: true}}},
	} {
		alike(t, what, with(request(msg.Produce), "Batch", b))
	}
	for what, b := range map[string]api.Batch{
		"a commit":                  rec.Mark(1, 0, true, 0),
		"an abort":                  rec.Mark(1, 0, false, 0),
		"a Base":                    {Base: 1, L: one},
		"the last Base":             {Base: api.MaxOffset, L: one},
		"a Base below 0":            {Base: -1, L: one},
		"no records":                {},
		"65 records":                {L: records(65)},
		"Kind 4":                    {Kind: 4, Pid: 1, L: one},
		"Kind -1":                   {Kind: -1, Pid: 1, L: one},
		"Kind Part of nobody":       {Kind: api.Part, L: one},
		"a marker with records":     {Kind: api.Commit, Pid: 1, L: one},
		"Pid -1":                    {Pid: -1, L: one},
		"Pid MaxPid + 1":            {Pid: api.MaxPid + 1, L: one},
		"Epoch MaxEpoch + 1":        {Pid: 1, Epoch: api.MaxEpoch + 1, L: one},
		"Seq MaxSeq + 1":            {Pid: 1, Seq: api.MaxSeq + 1, L: one},
		"Time -1":                   {Time: -1, L: one},
		"Time MaxTime + 1":          {Time: api.MaxTime + 1, L: one},
		"a long key":                {L: []api.Record{{Key: long + "x"}}},
		"a long value":              {L: []api.Record{{Value: long + "x"}}},
		"a record at -1":            {L: []api.Record{{Time: -1}}},
		"a record at MaxTime + 1":   {L: []api.Record{{Time: api.MaxTime + 1}}},
		"sequence numbers that end": {Pid: 1, Seq: api.MaxSeq, L: records(2)},
	} {
		refused(t, what, with(request(msg.Produce), "Batch", b), api.ErrArg)
	}
	for what, b := range map[string]api.Batch{ // what their encodings leave out
		"gone with a value":  {L: []api.Record{{Value: "x", Gone: true}}},
		"an epoch of nobody": {Epoch: 1, L: one},
		"a Seq of nobody":    {Seq: 1, L: one},
		"a Seq of a marker":  {Kind: api.Commit, Pid: 1, Seq: 1},
	} {
		m := with(request(msg.Produce), "Batch", b)
		want(t, what, msg.Valid(m), api.ErrArg)
		if b, err := msg.Encode(m); len(b) != 0 || err != api.ErrArg {
			t.Errorf("%s: Encode: %x, %d", what, b, err)
		}
	}
}

// P16.1: rows that rise, are equal, or fall; at the bounds of offsets; with records that are valid and such that are not.
func TestRows(t *testing.T) {
	long := strings.Repeat("x", api.MaxText)
	end := int64(api.MaxOffset)
	for _, l := range [][]rec.At{
		{at(0, "", "")},
		{at(0, "a", "b"), at(1, "a", "b"), at(2, "a", "b")},
		{at(end, "k", "v")},
		{at(0, "k", "v"), at(end, "k", "v")},
		{at(end-1, "k", "v"), at(end, "k", "v")},
		{at(7, long, long), at(9, long, long)},
		{{Offset: 1, Record: api.Record{Time: api.MaxTime}}, {Offset: 2, Record: api.Record{Key: "k", Gone: true}}},
	} {
		alike(t, fmt.Sprint("rows ", cutRows(l)), with(reply(msg.Fetch), "Rows", l))
	}
	for _, l := range [][]rec.At{
		{at(3, "k", "v"), at(3, "k", "v")},
		{at(3, "k", "v"), at(2, "k", "v")},
		{at(0, "k", "v"), at(0, "l", "w")},
		{at(1, "k", "v"), at(5, "k", "v"), at(4, "k", "v")},
		{at(1, "k", "v"), at(5, "k", "v"), at(0, "k", "v"), at(7, "k", "v")},
		{at(-1, "k", "v")},
		{at(math.MinInt64, "k", "v")},
		{at(-1, "k", "v"), at(0, "k", "v")},
		{at(end+1, "k", "v")},
		{at(math.MaxInt64, "k", "v")},
		{at(0, "k", "v"), at(end+1, "k", "v")},
		{at(0, long+"x", "v")},
		{at(0, "k", long+"x")},
		{at(0, "k", "v"), at(1, "k", long+"x")},
		{{Record: api.Record{Time: -1}}},
		{{Record: api.Record{Time: api.MaxTime + 1}}},
		{at(0, "k", "v"), {Offset: 4, Record: api.Record{Time: math.MinInt64}}},
	} {
		refused(t, fmt.Sprint("rows ", cutRows(l)), with(reply(msg.Fetch), "Rows", l), api.ErrArg)
	}
	value := with(reply(msg.Fetch), "Rows", []rec.At{{Record: api.Record{Value: "x", Gone: true}}})
	want(t, "gone with a value", msg.Valid(value), api.ErrArg)
}

func cutRows(l []rec.At) string {
	s := fmt.Sprint(l)
	return s[:min(len(s), 60)]
}

// P16.1: 64 and 65 commits, each of their numbers at its bounds and beyond.
func TestCommits(t *testing.T) {
	set := func(l ...offsets.Commit) msg.Msg { return with(request(msg.Commit), "Commits", l) }
	for _, n := range []int{0, 1, 63, 64} {
		alike(t, fmt.Sprint(n, " commits"), set(make([]offsets.Commit, n)...))
	}
	for _, n := range []int{65, 66, 128, 200} {
		refused(t, fmt.Sprint(n, " commits"), set(make([]offsets.Commit, n)...), api.ErrArg)
	}
	good := offsets.Commit{Part: 1, Offset: 2, Member: 3, Generation: 4}
	for _, c := range []struct {
		c  offsets.Commit
		ok bool
	}{
		{good, true},
		{offsets.Commit{}, true},
		{offsets.Commit{Part: 255, Offset: api.MaxOffset, Member: 64, Generation: 1<<31 - 1}, true},
		{offsets.Commit{Part: 256}, false},
		{offsets.Commit{Part: -1}, false},
		{offsets.Commit{Part: 1000}, false},
		{offsets.Commit{Offset: -1}, false},
		{offsets.Commit{Offset: api.MaxOffset + 1}, false},
		{offsets.Commit{Member: -1}, false},
		{offsets.Commit{Member: 65}, false},
		{offsets.Commit{Generation: -1}, false},
		{offsets.Commit{Generation: 1 << 31}, false},
	} {
		for _, l := range [][]offsets.Commit{{c.c}, {good, c.c}, {c.c, good, c.c}} {
			if c.ok {
				alike(t, fmt.Sprint(l), set(l...))
			} else {
				refused(t, fmt.Sprint(l), set(l...), api.ErrArg)
			}
		}
	}
}

// sized is a Fetch reply with rows whose body has so many bytes.
func sized(t *testing.T, n int) msg.Msg {
	t.Helper()
	value := strings.Repeat("v", api.MaxText)
	var l []rec.At
	for i := range int64((n - 600) / 1040) { // of so many bytes is each of them
		l = append(l, at(i, "k", value))
	}
	m := with(reply(msg.Fetch), "Rows", l)
	size := n - len(body(m)) - 40 // about what the last row has to have
	for ; size < n; size++ {
		key := min(size, api.MaxText)
		last := at(int64(len(l)), strings.Repeat("x", key), strings.Repeat("v", size-key))
		if end := with(m, "Rows", append(slices.Clone(l), last)); len(body(end)) >= n {
			if len(body(end)) > n || size-key > api.MaxText {
				t.Fatal("no such size", n, len(body(end)))
			}
			return end
		}
	}
	return m
}

// P16.1: bodies of MaxBody bytes, and one more; as many rows as may be, and one more.
func TestLong(t *testing.T) {
	for n := api.MaxBody - 2; n <= api.MaxBody; n++ {
		alike(t, fmt.Sprint("a body of ", n), sized(t, n))
	}
	for n := api.MaxBody + 1; n <= api.MaxBody+3; n++ {
		refused(t, fmt.Sprint("a body of ", n), sized(t, n), api.ErrLong)
	}
	long := sized(t, api.MaxBody+1)
	refused(t, "long, and of a node that is none", with(long, "From", 1000), api.ErrArg)
	refused(t, "long, and a field too many", with(long, "Most", 1), api.ErrArg)
	rows := make([]rec.At, 65537)
	for i := range rows {
		rows[i].Offset = int64(i)
	}
	m := with(reply(msg.Fetch), "Rows", rows[:65536])
	want(t, "65536 rows", msg.Valid(m), api.ErrLong)
	if b, err := msg.Encode(m); len(b) != 0 || err != api.ErrLong {
		t.Error("65536 rows: Encode:", len(b), err)
	}
	m.Rows = rows
	want(t, "65537 rows", msg.Valid(m), api.ErrArg)
	m.Rows = rows[:65536]
	m.Rows[65535].Offset = 65534
	want(t, "65536 rows, the last two of which are equal", msg.Valid(m), api.ErrArg)
}

// P1: any messages, most of which may not be.
func TestStrange(t *testing.T) {
	for _, m := range some() {
		for _, n := range []int64{math.MinInt64, -1, 0, math.MaxInt64} {
			x := m
			for _, name := range append([]string{"From", "To", "Id", "Err"}, names...) {
				if f := field(&x, name); f.CanInt() {
					f.SetInt(n)
				}
			}
			x.Batch = api.Batch{Kind: int(n), Base: n, Pid: n, Epoch: int(n), Seq: int(n), Time: n, L: []api.Record{{Time: n}}}
			x.Rows = []rec.At{{Offset: n, Record: api.Record{Time: n}}, {Offset: n}}
			x.Commits = []offsets.Commit{{Part: int(n), Offset: n, Member: int(n), Generation: int(n)}}
			x.Ints = []int{int(n)}
			for _, kind := range []int{m.Kind, int(n)} {
				x.Kind = kind
				want(t, "strange", msg.Valid(x), api.ErrArg)
				if _, err := msg.Encode(x); err != api.ErrArg {
					t.Error("strange: Encode:", err)
				}
				if !msg.Same(x, msg.Copy(x)) || msg.Same(x, m) || !reflect.DeepEqual(msg.Copy(x), x) {
					t.Errorf("strange: Same, Copy of %+v", x)
				}
				refusal := msg.Msg{Head: msg.Head{Kind: kind, Reply: true, From: x.To, To: x.From, Id: x.Id}, Err: api.Errno(n)}
				if !reflect.DeepEqual(plain(msg.Refuse(x, api.Errno(n))), refusal) {
					t.Errorf("strange: Refuse: %+v", msg.Refuse(x, api.Errno(n)))
				}
			}
		}
	}
}
