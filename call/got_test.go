package call_test

import (
	"fmt"
	"math"
	"testing"

	"towpath/api"
	"towpath/call"
	"towpath/msg"
)

// P18.4 and P18.7: messages that are no reply to any open request.
func TestGotOther(t *testing.T) {
	c := busy(t)
	before := seen(c)
	l := map[string]msg.Msg{"nothing": {}}
	edit := func(what string, edit func(r *msg.Msg)) {
		for _, m := range c.Copy().Tick(9) {
			r := msg.Answer(m)
			edit(&r)
			l[fmt.Sprint(what, " of ", m.Id)] = r
		}
	}
	edit("the request", func(r *msg.Msg) { r.Reply, r.From, r.To = false, r.To, r.From })
	edit("a request from there", func(r *msg.Msg) { r.Reply = false })
	edit("a reply to another node", func(r *msg.Msg) { r.To = 3 })
	edit("a reply from another node", func(r *msg.Msg) { r.From = 3 })
	edit("a reply from the caller's node", func(r *msg.Msg) { r.From = 1 })
	edit("a reply from and to each other's node", func(r *msg.Msg) { r.From, r.To = r.To, r.From })
	edit("a reply of another kind", func(r *msg.Msg) { r.Kind = msg.Mark })
	edit("a reply of no kind", func(r *msg.Msg) { r.Kind = 0 })
	edit("a reply of another number", func(r *msg.Msg) { r.Id += 5 })
	edit("a reply of a number ahead", func(r *msg.Msg) { r.Id -= 5 })
	edit("a reply of another one's number", func(r *msg.Msg) { r.Id = 5 + (r.Id-4)%3 })
	edit("a reply of the least number", func(r *msg.Msg) { r.Id = math.MinInt64 })
	edit("a reply of the greatest number", func(r *msg.Msg) { r.Id = math.MaxInt64 })
	edit("a refusal from another node", func(r *msg.Msg) { r.From, r.Err = 3, api.ErrNone })
	for what, r := range l {
		if m, ok := c.Got(r); ok || !msg.Same(m, msg.Msg{}) {
			t.Errorf("Got of %s: %+v, %v", what, m, ok)
		}
		still(t, "Got of "+what, c, before)
	}
	none := newCaller(t, 1, 5, usual)
	before = seen(none)
	if m, ok := none.Got(msg.Answer(asked(beat(2), 1, 5))); ok || !msg.Same(m, msg.Msg{}) {
		t.Errorf("Got of a number that comes: %+v, %v", m, ok)
	}
	still(t, "Got where none is open", none, before)
}

// P18.4: the request comes back once, in any order of replies, whatever these say.
func TestGot(t *testing.T) {
	for first := range 3 {
		for _, err := range []api.Errno{api.OK, api.ErrFenced, 99, 100} {
			c := busy(t)
			l := c.Copy().Tick(9)
			rest := []int64{5, 6, 7}
			for k := range 3 {
				i := (first + k) % 3
				r := msg.Refuse(l[i], err)
				r.Offset, r.Ints = 7, []int{1}
				m, ok := c.Got(r)
				if !ok || !msg.Same(m, l[i]) {
					t.Errorf("Got of %d: %+v, %v", l[i].Id, m, ok)
				}
				rest = without(rest, l[i].Id)
				open(t, "Got", c, rest...)
				again(t, c, r)
			}
			if at, ok := c.Due(); at != 0 || ok || c.Next() != 8 {
				t.Errorf("all are answered: due %d, %v, next %d", at, ok, c.Next())
			}
			ticks(t, c, 1000)
		}
	}
	c := newCaller(t, 1, 5, usual)
	m := ask(t, c, beat(1), 0)
	if q, ok := c.Got(m); ok {
		t.Errorf("Got of a request to the caller's own node: %+v", q)
	}
	if q, ok := c.Got(msg.Answer(m)); !ok || !msg.Same(q, m) {
		t.Errorf("Got from the caller's own node: %+v, %v", q, ok)
	}
}

func without(l []int64, id int64) []int64 {
	var rest []int64
	for _, n := range l {
		if n != id {
			rest = append(rest, n)
		}
	}
	return rest
}

// again: a reply comes once more, and nothing changes.
func again(t *testing.T, c *call.Caller, r msg.Msg) {
	t.Helper()
	before := seen(c)
	if m, ok := c.Got(r); ok || !msg.Same(m, msg.Msg{}) {
		t.Errorf("Got of %d again: %+v, %v", r.Id, m, ok)
	}
	still(t, "Got again", c, before)
}

// P18.4: numbers that are open, that are not, and that stand there more than once.
func TestGive(t *testing.T) {
	for _, g := range []struct {
		ids   []int64
		count int
		rest  []int64
	}{
		{nil, 0, []int64{5, 6, 7}},
		{[]int64{4, 8, 0, -5, math.MinInt64, math.MaxInt64}, 0, []int64{5, 6, 7}},
		{[]int64{5}, 1, []int64{6, 7}},
		{[]int64{6}, 1, []int64{5, 7}},
		{[]int64{7}, 1, []int64{5, 6}},
		{[]int64{7, 5}, 2, []int64{6}},
		{[]int64{6, 6, 6}, 1, []int64{5, 7}},
		{[]int64{9, 7, 5, 7, 4, 5}, 2, []int64{6}},
		{[]int64{7, 6, 5, 6}, 3, nil},
	} {
		c := busy(t)
		l := c.Copy().Tick(9)
		before := seen(c)
		if k := c.Give(g.ids...); k != g.count {
			t.Errorf("Give(%v): %d", g.ids, k)
		}
		open(t, fmt.Sprintf("Give(%v)", g.ids), c, g.rest...)
		if g.count == 0 {
			still(t, "Give of none", c, before)
		}
		if k := c.Give(g.ids...); k != 0 || c.Next() != 8 {
			t.Errorf("Give(%v) again: %d, next %d", g.ids, k, c.Next())
		}
		ticks(t, c, 9, g.rest...)
		for _, m := range l {
			if q, ok := c.Got(msg.Answer(m)); ok != (len(without(g.rest, m.Id)) < len(g.rest)) {
				t.Errorf("Got behind Give(%v): %+v, %v", g.ids, q, ok)
			}
		}
	}
	none := newCaller(t, 1, 5, usual)
	if k := none.Give(5, 6); k != 0 {
		t.Error("Give where none is open:", k)
	}
}
