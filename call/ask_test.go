package call_test

import (
	"fmt"
	"math"
	"testing"

	"towpath/api"
	"towpath/call"
	"towpath/msg"
	"towpath/rec"
)

// P18.2: what is asked gets the caller's node and the next number, whatever it had, and is returned as it is.
func TestAsk(t *testing.T) {
	c := newCaller(t, 101, 300, usual)
	for i, m := range append(kinds(), beat(101)) {
		id := int64(300 + i)
		if i%2 == 0 {
			m.From, m.Id = 7, 900
		} else {
			m.From, m.Id = -7, -900 // these alone would not be valid
		}
		q := ask(t, c, m, int64(10*i))
		if !msg.Same(q, asked(m, 101, id)) || c.Next() != id+1 {
			t.Errorf("Ask %d: %+v, next %d", i, q, c.Next())
		}
		due(t, "Ask", c, 2)
	}
	open(t, "Ask", c, 300, 301, 302, 303)
	before := seen(c)
	if m, err := c.Ask(beat(1), 5); err != api.ErrFull || !msg.Same(m, msg.Msg{}) {
		t.Errorf("one more: %+v, %d", m, err)
	}
	still(t, "one more", c, before)
	for i, m := range append(kinds(), beat(101)) {
		ticks(t, c, int64(10*i+1))
		if l := c.Tick(int64(10*i + 2)); len(l) != 1 || !msg.Same(l[0], asked(m, 101, int64(300+i))) {
			t.Errorf("Tick: %+v", l)
		}
		c.Give(int64(300 + i))
	}
}

// P18.2: times at the edges, and beyond them.
func TestAskTimes(t *testing.T) {
	for now, err := range map[int64]api.Errno{-1: api.ErrArg, 0: api.OK, api.MaxTime: api.OK, api.MaxTime + 1: api.ErrArg, math.MinInt64: api.ErrArg, math.MaxInt64: api.ErrArg} {
		c := newCaller(t, 1, 5, usual)
		before := seen(c)
		m, got := c.Ask(beat(2), now)
		want(t, fmt.Sprint("Ask at ", now), got, err)
		if err == api.OK {
			due(t, "Ask", c, min(now+2, api.MaxTime+1))
			continue
		}
		if !msg.Same(m, msg.Msg{}) {
			t.Errorf("Ask at %d: %+v", now, m)
		}
		still(t, "Ask at no time", c, before)
	}
}

// P18.2: as many as may be, and one fewer; where one has gone there is room.
func TestAskFull(t *testing.T) {
	for _, most := range []int{1, 2, 1023, 1024} {
		c := newCaller(t, 1, 0, call.Config{First: 1, Last: 9, Open: most})
		for i := range most {
			ask(t, c, beat(2), int64(i))
		}
		for range 2 {
			next := c.Next()
			if m, err := c.Ask(beat(2), 5); err != api.ErrFull || !msg.Same(m, msg.Msg{}) || c.Next() != next || len(c.Open()) != most {
				t.Errorf("Ask with %d open: %+v, %d", len(c.Open()), m, err)
			}
			c.Give(c.Open()[most/2])
			ask(t, c, beat(2), 5)
		}
		c.Tick(5)
		if _, err := c.Ask(beat(2), 5); err != api.ErrFull {
			t.Errorf("Ask with %d open, behind Tick: %d", most, err)
		}
		if _, ok := c.Got(msg.Answer(asked(beat(2), 1, c.Open()[0]))); !ok {
			t.Error("Got: false")
		}
		ask(t, c, beat(2), 5)
	}
}

// P18.2 and P18.5: the numbers end at MaxTime, and none comes again.
func TestAskNumbers(t *testing.T) {
	c := newCaller(t, 1, api.MaxTime-1, usual)
	for _, id := range []int64{api.MaxTime - 1, api.MaxTime} {
		if m := ask(t, c, beat(2), 9); m.Id != id || c.Next() != id+1 {
			t.Errorf("Ask: %d, next %d", m.Id, c.Next())
		}
	}
	before := seen(c)
	if m, err := c.Ask(beat(2), 9); err != api.ErrExhausted || !msg.Same(m, msg.Msg{}) {
		t.Errorf("Ask behind MaxTime: %+v, %d", m, err)
	}
	still(t, "Ask behind MaxTime", c, before)
	if m, ok := c.Got(msg.Answer(asked(beat(2), 1, api.MaxTime))); !ok || m.Id != api.MaxTime {
		t.Errorf("Got of the last number: %+v, %v", m, ok)
	}
	c.Give(api.MaxTime - 1)
	want(t, "Ask without any open", second(c.Ask(beat(2), 9)), api.ErrExhausted)
	if c.Next() != api.MaxTime+1 {
		t.Error("Next:", c.Next())
	}
}

func second(_ msg.Msg, err api.Errno) api.Errno { return err }

// wrong are requests that are not valid, whoever asks. None can be too long: that takes Rows, which only a reply has.
func wrong() map[string]msg.Msg {
	l := map[string]msg.Msg{"no message": {}}
	edit := func(what string, edit func(m *msg.Msg)) {
		m := beat(2)
		edit(&m)
		l[what] = m
	}
	edit("a kind below", func(m *msg.Msg) { m.Kind = -1 })
	edit("a kind above", func(m *msg.Msg) { m.Kind = 13 })
	edit("to below", func(m *msg.Msg) { m.To = -1 })
	edit("to above", func(m *msg.Msg) { m.To = 1000 })
	edit("an error", func(m *msg.Msg) { m.Err = api.ErrNone })
	edit("a field", func(m *msg.Msg) { m.Member = 65 })
	edit("a field that its kind has not", func(m *msg.Msg) { m.Most = 1 })
	edit("rows, and too long", func(m *msg.Msg) { m.Kind, m.Most, m.Rows = msg.Fetch, 1, long().Rows })
	return l
}

// long is a reply each field of which is valid, but whose rows have more than MaxBody bytes.
func long() msg.Msg {
	m := msg.Msg{Head: msg.Head{Kind: msg.Fetch, Reply: true, To: 2}}
	text := string(make([]byte, api.MaxText))
	for i := range int64(200) {
		m.Rows = append(m.Rows, rec.At{Offset: i, Record: api.Record{Key: text, Value: text}})
	}
	return m
}

// replies are messages that are no requests, and may be wrong in other ways too.
func replies() map[string]msg.Msg {
	l := map[string]msg.Msg{"a reply": msg.Answer(msg.Msg{Head: msg.Head{Kind: msg.Beat, From: 2}}), "too long": long()}
	for what, m := range wrong() {
		m.Reply = true
		l["a reply with "+what] = m
	}
	return l
}

func TestAskWrong(t *testing.T) {
	c := busy(t)
	before := seen(c)
	for what, m := range wrong() {
		want(t, what, second(c.Ask(m, 4)), api.ErrArg)
	}
	for what, m := range replies() {
		want(t, what, second(c.Ask(m, 4)), api.ErrArg)
	}
	still(t, "messages that are not valid", c, before)
	ask(t, c, beat(2), 4)
}

// P18.2: each error alone, and ahead of each later one: a time, a reply, the last number, a message, how many are open.
func TestAskErrors(t *testing.T) {
	full, spare := call.Config{First: 2, Last: 5, Open: 1}, usual
	for faults := range 1 << 5 {
		has := func(k int) bool { return faults>>k&1 == 1 }
		config, from, now, err := spare, int64(5), int64(4), api.OK
		if has(4) {
			config, err = full, api.ErrFull
		}
		l := map[string]msg.Msg{"good": beat(2)}
		if has(3) {
			l, err = wrong(), api.ErrArg
		}
		if has(2) {
			from, err = api.MaxTime, api.ErrExhausted
		}
		if has(1) {
			l, err = replies(), api.ErrArg
		}
		if has(0) {
			now, err = -1, api.ErrArg
		}
		c := newCaller(t, 1, from, config)
		ask(t, c, beat(2), 3)
		before := seen(c)
		for what, m := range l {
			what = fmt.Sprintf("%s, faults %05b", what, faults)
			got, e := c.Ask(m, now)
			want(t, what, e, err)
			if err == api.OK {
				continue
			}
			still(t, what, c, before)
			if !msg.Same(got, msg.Msg{}) {
				t.Errorf("%s: %+v", what, got)
			}
		}
	}
}
