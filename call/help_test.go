package call_test

import (
	"fmt"
	"slices"
	"strings"
	"testing"

	"towpath/api"
	"towpath/call"
	"towpath/msg"
	"towpath/offsets"
)

// The calls keep the signatures that the chapter lists.
var (
	_ func(node int, from int64, c call.Config) (*call.Caller, api.Errno) = call.New
	_ func(*call.Caller, msg.Msg, int64) (msg.Msg, api.Errno)             = (*call.Caller).Ask
	_ func(*call.Caller, int64) []msg.Msg                                 = (*call.Caller).Tick
	_ func(*call.Caller, msg.Msg) (msg.Msg, bool)                         = (*call.Caller).Got
	_ func(*call.Caller, ...int64) int                                    = (*call.Caller).Give
	_ func(*call.Caller) []int64                                          = (*call.Caller).Open
	_ func(*call.Caller) int64                                            = (*call.Caller).Next
	_ func(*call.Caller) (int64, bool)                                    = (*call.Caller).Due
	_ func(*call.Caller) *call.Caller                                     = (*call.Caller).Copy
	_ struct {
		First, Last int64
		Open        int
	} = call.Config{}
)

// usual is the config of the chapter's example.
var usual = call.Config{First: 2, Last: 5, Open: 4}

func newCaller(t *testing.T, node int, from int64, c call.Config) *call.Caller {
	t.Helper()
	x, err := call.New(node, from, c)
	if err != api.OK || x == nil {
		t.Fatalf("New(%d, %d, %v): %v, %d", node, from, c, x, err)
	}
	return x
}

func want(t *testing.T, what string, got, err api.Errno) {
	t.Helper()
	if got != err {
		t.Errorf("%s: %d, not %d", what, got, err)
	}
}

// beat is a request to a node, before it is asked.
func beat(to int) msg.Msg { return msg.Msg{Head: msg.Head{Kind: msg.Beat, To: to}, Member: 3} }

// asked is a request as it is sent.
func asked(m msg.Msg, from int, id int64) msg.Msg {
	m.From, m.Id = from, id
	return m
}

// ask opens a request, and returns it.
func ask(t *testing.T, c *call.Caller, m msg.Msg, now int64) msg.Msg {
	t.Helper()
	q, err := c.Ask(m, now)
	if err != api.OK {
		t.Fatalf("Ask at %d: %d", now, err)
	}
	return q
}

// ids are the numbers of messages.
func ids(l []msg.Msg) []int64 {
	var n []int64
	for _, m := range l {
		n = append(n, m.Id)
	}
	return n
}

// ticks: what is due is these numbers, in this order.
func ticks(t *testing.T, c *call.Caller, now int64, numbers ...int64) {
	t.Helper()
	if l := ids(c.Tick(now)); !slices.Equal(l, numbers) {
		t.Errorf("Tick(%d): %v, not %v", now, l, numbers)
	}
}

// due: the next request is due then.
func due(t *testing.T, what string, c *call.Caller, at int64) {
	t.Helper()
	if got, ok := c.Due(); got != at || !ok {
		t.Errorf("%s: Due: %d, %v, not %d", what, got, ok, at)
	}
}

// open: these requests are open.
func open(t *testing.T, what string, c *call.Caller, numbers ...int64) {
	t.Helper()
	if l := c.Open(); !slices.Equal(l, numbers) {
		t.Errorf("%s: Open: %v, not %v", what, l, numbers)
	}
}

// seen is all that a caller tells of itself, and of each request when it is due, what is repeated then, and how long it waits next.
func seen(c *call.Caller) string {
	var s strings.Builder
	l := c.Open()
	at, ok := c.Due()
	fmt.Fprintf(&s, "next %d, open %v, due %d %v\n", c.Next(), l, at, ok)
	for i, id := range l {
		one := c.Copy()
		one.Give(slices.Concat(l[:i], l[i+1:])...)
		at, _ = one.Due()
		fmt.Fprintf(&s, "%d at %d:", id, at)
		for range 2 {
			for _, m := range one.Tick(at) {
				fmt.Fprintf(&s, " %+v", m)
			}
			at, _ = one.Due()
			fmt.Fprintf(&s, ", then at %d", at)
		}
		s.WriteString("\n")
	}
	return s.String()
}

// still: a caller is as it was seen.
func still(t *testing.T, what string, c *call.Caller, before string) {
	t.Helper()
	if now := seen(c); now != before {
		t.Errorf("%s: the caller has changed from\n%sto\n%s", what, before, now)
	}
}

// kinds are requests whose slices have something, with room behind their ends.
func kinds() []msg.Msg {
	head := func(kind int) msg.Msg { return msg.Msg{Head: msg.Head{Kind: kind, To: 2}} }
	produce, join, commit := head(msg.Produce), head(msg.Join), head(msg.Commit)
	produce.Batch.L = append(make([]api.Record, 0, 9), api.Record{Key: "k", Value: "v"}, api.Record{Key: "l", Gone: true})
	join.Ints = append(make([]int, 0, 9), 4, 1)
	commit.Commits = append(make([]offsets.Commit, 0, 9), offsets.Commit{Part: 7, Offset: 300, Member: 2, Generation: 5})
	return []msg.Msg{produce, join, commit}
}

// scribble writes into all slices of a message, and behind their ends.
func scribble(m msg.Msg) {
	for i := range m.Batch.L {
		m.Batch.L[i] = api.Record{Key: "scribbled"}
	}
	for i := range m.Ints {
		m.Ints[i] = -9
	}
	for i := range m.Commits {
		m.Commits[i] = offsets.Commit{Part: -9}
	}
	_ = append(m.Batch.L, api.Record{Key: "scribbled"})
	_ = append(m.Ints, -9)
	_ = append(m.Commits, offsets.Commit{Part: -9})
}

// request is one that is open.
type request struct {
	msg.Msg
	wait, due int64
}

// model says once more what a caller is.
type model struct {
	node int
	next int64
	c    call.Config
	open []request
}

func (m *model) copy() *model {
	n := *m
	n.open = slices.Clone(m.open)
	return &n
}

func (m *model) ids() []int64 {
	l := []int64{}
	for _, q := range m.open {
		l = append(l, q.Id)
	}
	return l
}

func (m *model) dueAt() (int64, bool) {
	if len(m.open) == 0 {
		return 0, false
	}
	at := int64(api.MaxTime + 1)
	for _, q := range m.open {
		at = min(at, q.due)
	}
	return at, true
}

// seen is what seen says of a caller like it.
func (m *model) seen() string {
	var s strings.Builder
	at, ok := m.dueAt()
	fmt.Fprintf(&s, "next %d, open %v, due %d %v\n", m.next, m.ids(), at, ok)
	for _, q := range m.open {
		one := &model{m.node, m.next, m.c, []request{q}}
		at, _ = one.dueAt()
		fmt.Fprintf(&s, "%d at %d:", q.Id, at)
		for range 2 {
			for _, x := range one.tick(at) {
				fmt.Fprintf(&s, " %+v", x)
			}
			at, _ = one.dueAt()
			fmt.Fprintf(&s, ", then at %d", at)
		}
		s.WriteString("\n")
	}
	return s.String()
}

func isTime(n int64) bool { return 0 <= n && n <= api.MaxTime }

func (m *model) ask(x msg.Msg, now int64) (msg.Msg, api.Errno) {
	x = asked(x, m.node, m.next)
	err := msg.Valid(x)
	switch {
	case !isTime(now), x.Reply:
		return msg.Msg{}, api.ErrArg
	case m.next > api.MaxTime:
		return msg.Msg{}, api.ErrExhausted
	case err != api.OK:
		return msg.Msg{}, err
	case len(m.open) == m.c.Open:
		return msg.Msg{}, api.ErrFull
	}
	m.open = append(m.open, request{x, m.c.First, now + m.c.First})
	m.next++
	return x, api.OK
}

func (m *model) tick(now int64) []msg.Msg {
	var l []msg.Msg
	for i, q := range m.open {
		if !isTime(now) || q.due > now {
			continue
		}
		q.wait *= 2
		if q.wait > m.c.Last {
			q.wait = m.c.Last
		}
		q.due = now + q.wait
		m.open[i] = q
		l = append(l, q.Msg)
	}
	return l
}

func (m *model) got(r msg.Msg) (msg.Msg, bool) {
	for i, q := range m.open {
		if r.Reply && r.To == m.node && q.To == r.From && q.Id == r.Id && q.Kind == r.Kind {
			m.open = slices.Concat(m.open[:i], m.open[i+1:])
			return q.Msg, true
		}
	}
	return msg.Msg{}, false
}

func (m *model) give(ids ...int64) int {
	before := len(m.open)
	m.open = slices.DeleteFunc(m.open, func(q request) bool { return slices.Contains(ids, q.Id) })
	return before - len(m.open)
}
