package link_test

import (
	"fmt"
	"math"
	"slices"
	"strings"
	"testing"

	"towpath/api"
	"towpath/link"
	"towpath/msg"
	"towpath/offsets"
	"towpath/rec"
)

// The calls keep the signatures that the chapter lists.
var (
	_ func(int) (*link.Net, api.Errno)                              = link.New
	_ func(*link.Net, ...msg.Msg) api.Errno                         = (*link.Net).Send
	_ func(*link.Net, int) (msg.Msg, api.Errno)                     = (*link.Net).Take
	_ func(*link.Net, int) api.Errno                                = (*link.Net).Drop
	_ func(*link.Net, int) api.Errno                                = (*link.Net).Twice
	_ func(*link.Net, int) api.Errno                                = (*link.Net).Later
	_ func(n *link.Net, i int, at int, bits uint32) (err api.Errno) = (*link.Net).Spoil
	_ func(*link.Net, link.Way)                                     = (*link.Net).Cut
	_ func(*link.Net, link.Way)                                     = (*link.Net).Join
	_ func(*link.Net, int) int                                      = (*link.Net).Lose
	_ func(*link.Net) int                                           = (*link.Net).Len
	_ func(*link.Net, int) (link.Way, bool)                         = (*link.Net).Way
	_ func(*link.Net, int) []byte                                   = (*link.Net).Raw
	_ func(*link.Net, link.Way) int                                 = (*link.Net).On
	_ func(*link.Net, link.Way) bool                                = (*link.Net).Open
	_ func(*link.Net) *link.Net                                     = (*link.Net).Copy
	_ struct{ From, To int }                                        = link.Way{}
)

// far are numbers of packets that there never are.
var far = []int{-1, -2, math.MinInt, math.MaxInt, 1 << 32, -1 << 32}

func newNet(t *testing.T, bound int) *link.Net {
	t.Helper()
	n, err := link.New(bound)
	if err != api.OK || n == nil {
		t.Fatalf("New(%d): %v, %d", bound, n, err)
	}
	return n
}

func want(t *testing.T, what string, got, err api.Errno) {
	t.Helper()
	if got != err {
		t.Errorf("%s: %d, not %d", what, got, err)
	}
}

func way(from, to int) link.Way { return link.Way{From: from, To: to} }

// ways are those that seen asks for.
func ways() []link.Way {
	l := []link.Way{way(999, 0), way(0, 999), way(-1, 1), way(1, -1), way(1000, 1), way(math.MinInt, math.MaxInt)}
	for from := range 5 {
		for to := range 5 {
			l = append(l, way(from, to))
		}
	}
	return l
}

// seen is all that a net tells of itself.
func seen(n *link.Net) string {
	var s strings.Builder
	fmt.Fprintf(&s, "%d packets\n", n.Len())
	for i := -1; i <= n.Len(); i++ {
		w, ok := n.Way(i)
		fmt.Fprintf(&s, "%v %v %x\n", w, ok, n.Raw(i))
	}
	for _, w := range ways() {
		if k, open := n.On(w), n.Open(w); k != 0 || !open {
			fmt.Fprintf(&s, "%v: %d, %v\n", w, k, open)
		}
	}
	return s.String()
}

// still: a net is as it was seen.
func still(t *testing.T, what string, n *link.Net, before string) {
	t.Helper()
	if now := seen(n); now != before {
		t.Errorf("%s: the net has changed from\n%sto\n%s", what, before, now)
	}
}

func beat(from, to int, id int64) msg.Msg {
	return msg.Msg{Head: msg.Head{Kind: msg.Beat, From: from, To: to, Id: id}, Member: 3}
}

// beats are messages with the numbers from first on.
func beats(from, to int, first int64, count int) []msg.Msg {
	var l []msg.Msg
	for i := range count {
		l = append(l, beat(from, to, first+int64(i)))
	}
	return l
}

// head is a message's way and number.
func head(m msg.Msg) string { return fmt.Sprintf("%d-%d:%d", m.From, m.To, m.Id) }

// heads are the packets of a net, in their order, each of which has to be a message. The net stays as it is.
func heads(t *testing.T, n *link.Net) string {
	t.Helper()
	var l []string
	for c := n.Copy(); c.Len() > 0; {
		w, ok := c.Way(0)
		m, err := c.Take(0)
		if err != api.OK || !ok || w != way(m.From, m.To) {
			t.Errorf("Take: %v, %d on %v, %v", m, err, w, ok)
		}
		l = append(l, head(m))
	}
	return strings.Join(l, " ")
}

// has: the packets of a net are these messages, in this order.
func has(t *testing.T, what string, n *link.Net, packets ...string) {
	t.Helper()
	if got := heads(t, n); got != strings.Join(packets, " ") || n.Len() != len(packets) {
		t.Errorf("%s: %s, not %v", what, got, packets)
	}
}

// kinds are messages whose slices have something, from node 1 to node 2, with room behind their ends.
func kinds() []msg.Msg {
	head := func(kind int, reply bool) msg.Msg {
		return msg.Msg{Head: msg.Head{Kind: kind, Reply: reply, From: 1, To: 2, Id: 7}}
	}
	produce, fetch, join, commit := head(msg.Produce, false), head(msg.Fetch, true), head(msg.Join, false), head(msg.Commit, false)
	produce.Batch.L = append(make([]api.Record, 0, 9), api.Record{Key: "k", Value: "v"}, api.Record{Key: "l", Gone: true})
	fetch.Rows = append(make([]rec.At, 0, 9), rec.At{Offset: 3, Record: api.Record{Key: "k"}})
	join.Ints = append(make([]int, 0, 9), 4, 1)
	commit.Commits = append(make([]offsets.Commit, 0, 9), offsets.Commit{Part: 7, Offset: 300, Member: 2, Generation: 5})
	return []msg.Msg{produce, fetch, join, commit}
}

// scribble writes into all slices of a message, and behind their ends.
func scribble(m msg.Msg) {
	for i := range m.Batch.L {
		m.Batch.L[i] = api.Record{Key: "scribbled"}
	}
	for i := range m.Rows {
		m.Rows[i] = rec.At{Offset: -9}
	}
	for i := range m.Ints {
		m.Ints[i] = -9
	}
	for i := range m.Commits {
		m.Commits[i] = offsets.Commit{Part: -9}
	}
	_ = append(m.Batch.L, api.Record{Key: "scribbled"})
	_ = append(m.Rows, rec.At{Offset: -9})
	_ = append(m.Ints, -9)
	_ = append(m.Commits, offsets.Commit{Part: -9})
}

// packet is a message as bytes, on its way.
type packet struct {
	way link.Way
	raw string
}

// model says once more what a net is.
type model struct {
	bound  int
	queue  []packet
	closed []link.Way
}

func (m *model) copy() *model {
	return &model{m.bound, slices.Clone(m.queue), slices.Clone(m.closed)}
}

func (m *model) on(w link.Way) int {
	k := 0
	for _, p := range m.queue {
		if p.way == w {
			k++
		}
	}
	return k
}

func (m *model) open(w link.Way) bool { return !slices.Contains(m.closed, w) }

// seen is what seen says of a net like it.
func (m *model) seen() string {
	var s strings.Builder
	fmt.Fprintf(&s, "%d packets\n", len(m.queue))
	fmt.Fprintf(&s, "%v false \n", link.Way{})
	for _, p := range m.queue {
		fmt.Fprintf(&s, "%v true %x\n", p.way, p.raw)
	}
	fmt.Fprintf(&s, "%v false \n", link.Way{})
	for _, w := range ways() {
		if k, open := m.on(w), m.open(w); k != 0 || !open {
			fmt.Fprintf(&s, "%v: %d, %v\n", w, k, open)
		}
	}
	return s.String()
}

func (m *model) send(l ...msg.Msg) api.Errno {
	n := m.copy()
	for _, x := range l {
		raw, err := msg.Encode(x)
		if err != api.OK {
			return err
		}
		w := way(x.From, x.To)
		switch {
		case !n.open(w):
		case n.on(w) == n.bound:
			return api.ErrFull
		default:
			n.queue = append(n.queue, packet{w, string(raw)})
		}
	}
	*m = *n
	return api.OK
}

func (m *model) there(i int) bool { return 0 <= i && i < len(m.queue) }

func (m *model) take(i int) (msg.Msg, api.Errno) {
	if !m.there(i) {
		return msg.Msg{}, api.ErrNone
	}
	p := m.queue[i]
	m.drop(i)
	x, err := msg.Decode([]byte(p.raw))
	if err != api.OK || way(x.From, x.To) != p.way {
		return msg.Msg{}, api.ErrForm
	}
	return x, api.OK
}

func (m *model) drop(i int) api.Errno {
	if !m.there(i) {
		return api.ErrNone
	}
	m.queue = slices.Concat(m.queue[:i], m.queue[i+1:])
	return api.OK
}

func (m *model) twice(i int) api.Errno {
	if !m.there(i) {
		return api.ErrNone
	}
	if m.on(m.queue[i].way) == m.bound {
		return api.ErrFull
	}
	m.queue = append(m.queue, m.queue[i])
	return api.OK
}

func (m *model) later(i int) api.Errno {
	if !m.there(i) {
		return api.ErrNone
	}
	m.queue = slices.Concat(m.queue[:i], m.queue[i+1:], m.queue[i:i+1])
	return api.OK
}

func (m *model) spoil(i, at int, bits uint32) api.Errno {
	if !m.there(i) {
		return api.ErrNone
	}
	m.queue[i].raw = spoilt(m.queue[i].raw, at, bits)
	return api.OK
}

// spoilt is what the chapter has become of bytes, bit by bit.
func spoilt(raw string, at int, bits uint32) string {
	b := []byte(raw)
	p := at % (len(b) - 3)
	if p < 0 {
		p += len(b) - 3
	}
	for k := range 32 {
		if bits>>k&1 == 1 {
			b[p+k/8] ^= 1 << (k % 8)
		}
	}
	return string(b)
}

func (m *model) cut(w link.Way) {
	if m.open(w) {
		m.closed = append(m.closed, w)
	}
}

func (m *model) join(w link.Way) {
	m.closed = slices.DeleteFunc(m.closed, func(c link.Way) bool { return c == w })
}

func (m *model) lose(node int) int {
	before := len(m.queue)
	m.queue = slices.DeleteFunc(m.queue, func(p packet) bool { return p.way.From == node || p.way.To == node })
	return before - len(m.queue)
}
