package link_test

import (
	"fmt"
	"strings"
	"testing"

	"towpath/api"
	"towpath/msg"
)

// long is a message each field of which is valid, but whose rows have more than MaxBody bytes.
func long(from, to int) msg.Msg {
	m := kinds()[1]
	m.From, m.To = from, to
	row := m.Rows[0]
	row.Key, row.Value = strings.Repeat("k", api.MaxText), strings.Repeat("v", api.MaxText)
	m.Rows = nil
	for i := range int64(200) {
		row.Offset = i
		m.Rows = append(m.Rows, row)
	}
	return m
}

// wrong are messages that are not valid, on a way where there may be more.
func wrong() map[string]msg.Msg {
	l := map[string]msg.Msg{"no message": {}}
	edit := func(what string, edit func(m *msg.Msg)) {
		m := beat(3, 4, 3)
		edit(&m)
		l[what] = m
	}
	edit("a kind", func(m *msg.Msg) { m.Kind = 13 })
	edit("a field", func(m *msg.Msg) { m.Member = 65 })
	edit("a field that its kind has not", func(m *msg.Msg) { m.Most = 1 })
	edit("from below", func(m *msg.Msg) { m.From = -1 })
	edit("from above", func(m *msg.Msg) { m.From = 1000 })
	edit("to below", func(m *msg.Msg) { m.To = -1 })
	edit("to above", func(m *msg.Msg) { m.To = 1000 })
	edit("a number", func(m *msg.Msg) { m.Id = api.MaxTime + 1 })
	edit("an error", func(m *msg.Msg) { m.Err = api.ErrNone })
	return l
}

// P17.2: how many messages there are in one call.
func TestSend(t *testing.T) {
	n := newNet(t, 3)
	want(t, "Send of none", n.Send(), api.OK)
	want(t, "Send of none", n.Send([]msg.Msg{}...), api.OK)
	has(t, "Send of none", n)
	want(t, "Send of one", n.Send(beat(1, 2, 1)), api.OK)
	has(t, "Send of one", n, "1-2:1")
	want(t, "Send of several", n.Send(beat(2, 1, 2), beat(1, 2, 3), beat(0, 999, 4), beat(999, 0, 5), beat(3, 3, 6)), api.OK)
	has(t, "Send of several", n, "1-2:1", "2-1:2", "1-2:3", "0-999:4", "999-0:5", "3-3:6")
	for _, w := range ways() {
		k := strings.Count(" "+heads(t, n), fmt.Sprintf(" %d-%d:", w.From, w.To))
		if n.On(w) != k {
			t.Errorf("On(%v): %d, not %d", w, n.On(w), k)
		}
	}
	full := newNet(t, 2)
	want(t, "Send of three, with bound 2", full.Send(beats(1, 2, 1, 3)...), api.ErrFull)
	has(t, "Send of three, with bound 2", full)
	want(t, "Send of two", full.Send(beats(1, 2, 1, 2)...), api.OK)
	has(t, "Send of two", full, "1-2:1", "1-2:2")
}

// P17.2: packets are the encodings of messages of each kind, and come out as these.
func TestSent(t *testing.T) {
	n := newNet(t, 9)
	l := append(kinds(), beat(1, 2, 7), msg.Answer(beat(2, 1, 7)), msg.Refuse(beat(2, 1, api.MaxTime), 99))
	want(t, "Send", n.Send(l...), api.OK)
	for i, m := range l {
		if raw, _ := msg.Encode(m); string(n.Raw(i)) != string(raw) || len(raw) == 0 {
			t.Errorf("Raw(%d): %x, not %x", i, n.Raw(i), raw)
		}
		if w, ok := n.Way(i); !ok || w != way(1, 2) {
			t.Errorf("Way(%d): %v, %v", i, w, ok)
		}
	}
	for i, m := range l {
		if got, err := n.Take(0); err != api.OK || !msg.Same(got, m) {
			t.Errorf("Take of message %d: %v, %d", i, got, err)
		}
	}
}

// P17.2: what is not valid is refused wherever it stands, and nothing of its call is sent.
func TestSendWrong(t *testing.T) {
	n := newNet(t, 2)
	n.Send(beats(1, 2, 1, 2)...)
	n.Cut(way(3, 4))
	n.Cut(way(5, 6))
	before := seen(n)
	full, good := beat(1, 2, 3), beat(2, 1, 4)
	for what, m := range wrong() {
		for _, l := range [][]msg.Msg{{m}, {m, good}, {good, m}, {good, m, good}, {m, m}, {m, long(2, 1)}} {
			want(t, fmt.Sprint(what, " of ", len(l)), n.Send(l...), api.ErrArg)
		}
		want(t, what+" ahead of a full way", n.Send(good, m, full), api.ErrArg)
		want(t, what+" behind a full way", n.Send(good, full, m), api.ErrFull)
		want(t, what+" behind what is too long", n.Send(long(2, 1), m), api.ErrLong)
		still(t, what, n, before)
	}
	want(t, "too long", n.Send(long(2, 1)), api.ErrLong)
	want(t, "too long, on a closed way", n.Send(good, long(5, 6)), api.ErrLong)
	want(t, "too long, on a full way", n.Send(good, long(1, 2)), api.ErrLong)
	want(t, "too long ahead of a full way", n.Send(long(2, 1), full), api.ErrLong)
	want(t, "too long behind a full way", n.Send(full, long(2, 1)), api.ErrFull)
	bad := full
	bad.Member = -1
	want(t, "not valid, and on a full way", n.Send(bad), api.ErrArg)
	bad.From, bad.To = 5, 6
	want(t, "not valid, and on a closed way", n.Send(bad), api.ErrArg)
	still(t, "too long, or not valid", n, before)
	want(t, "what is good", n.Send(good), api.OK)
	has(t, "what is good", n, "1-2:1", "1-2:2", "2-1:4")
}

// P17.2 and P17.8: a way that is filled by packets that were there, by earlier messages of the call, and by both.
func TestSendFull(t *testing.T) {
	n := newNet(t, 3)
	want(t, "one", n.Send(beat(1, 2, 1)), api.OK)
	before := seen(n)
	want(t, "three more, among others", n.Send(beat(2, 1, 2), beat(1, 2, 3), beat(3, 4, 4), beat(1, 2, 5), beat(2, 1, 6), beat(1, 2, 7), beat(4, 3, 8)), api.ErrFull)
	want(t, "four on another way", n.Send(beats(2, 1, 2, 4)...), api.ErrFull)
	still(t, "one way would be too full", n, before)
	want(t, "two more, among others", n.Send(beat(2, 1, 2), beat(1, 2, 3), beat(2, 1, 4), beat(1, 2, 5), beat(2, 1, 6)), api.OK)
	has(t, "two full ways", n, "1-2:1", "2-1:2", "1-2:3", "2-1:4", "1-2:5", "2-1:6")
	before = seen(n)
	for _, m := range []msg.Msg{beat(1, 2, 9), beat(2, 1, 9)} {
		want(t, "a full way", n.Send(m), api.ErrFull)
		want(t, "a full way, behind others", n.Send(beat(3, 1, 1), beat(1, 3, 1), m), api.ErrFull)
		still(t, "a full way", n, before)
	}
	want(t, "other ways of these nodes", n.Send(beat(1, 3, 7), beat(3, 2, 8), beat(1, 1, 9)), api.OK)
	has(t, "other ways", n, "1-2:1", "2-1:2", "1-2:3", "2-1:4", "1-2:5", "2-1:6", "1-3:7", "3-2:8", "1-1:9")
	n.Take(2)
	want(t, "where one was taken", n.Send(beat(1, 2, 10)), api.OK)
	n.Drop(0)
	want(t, "where one was dropped", n.Send(beat(1, 2, 11)), api.OK)
	want(t, "where none is missing", n.Send(beat(1, 2, 12)), api.ErrFull)
	n.Later(2)
	want(t, "where one was moved", n.Send(beat(1, 2, 12)), api.ErrFull)
	n.Spoil(n.Len()-1, 0, 1)
	want(t, "where one was spoilt", n.Send(beat(1, 2, 12)), api.ErrFull)
	n.Take(n.Len() - 1)
	want(t, "where one was no message any more", n.Send(beat(1, 2, 12)), api.OK)
	n.Lose(3)
	want(t, "where none was lost", n.Send(beat(1, 2, 13)), api.ErrFull)
	n.Lose(1)
	want(t, "where all were lost", n.Send(beats(1, 2, 14, 3)...), api.OK)
	has(t, "in the end", n, "1-2:14", "1-2:15", "1-2:16")
}

// P17.2: a message on a closed way is lost, however full the way is, and takes no place.
func TestSendClosed(t *testing.T) {
	n := newNet(t, 2)
	n.Cut(way(1, 2))
	want(t, "a closed way", n.Send(beats(1, 2, 1, 5)...), api.OK)
	want(t, "the way back", n.Send(beat(2, 1, 6)), api.OK)
	want(t, "among others", n.Send(beat(1, 2, 7), beat(3, 4, 8), beat(1, 2, 9)), api.OK)
	has(t, "a closed way", n, "2-1:6", "3-4:8")
	n.Join(way(1, 2))
	has(t, "a way that is open again", n, "2-1:6", "3-4:8")
	want(t, "three on a way that is open again", n.Send(beats(1, 2, 10, 3)...), api.ErrFull)
	want(t, "two on a way that is open again", n.Send(beats(1, 2, 10, 2)...), api.OK)
	n.Cut(way(1, 2))
	before := seen(n)
	want(t, "a closed way that is full", n.Send(beat(1, 2, 13)), api.OK)
	want(t, "a closed way that is full, and an open one that gets so", n.Send(beat(1, 2, 13), beat(3, 4, 14), beat(3, 4, 15)), api.ErrFull)
	still(t, "a closed way that is full", n, before)
	want(t, "a closed way that is full, among others", n.Send(beat(1, 2, 13), beat(3, 4, 14), beat(1, 2, 15)), api.OK)
	has(t, "a closed way that is full", n, "2-1:6", "3-4:8", "1-2:10", "1-2:11", "3-4:14")
	n.Join(way(1, 2))
	want(t, "an open way that is full", n.Send(beat(1, 2, 13)), api.ErrFull)
}

// Rules 4 and 5: messages that are written into behind Send, and such as Take returned.
func TestShared(t *testing.T) {
	n := newNet(t, 9)
	sent, model := kinds(), kinds()
	for i, m := range sent {
		want(t, "Send", n.Send(m), api.OK)
		if !msg.Same(m, model[i]) {
			t.Errorf("Send has changed message %d: %+v", i, m)
		}
		n.Twice(n.Len() - 1)
	}
	before := seen(n)
	c := n.Copy()
	for _, m := range sent {
		scribble(m)
	}
	sent[0] = msg.Msg{}
	still(t, "writing into what was sent", n, before)
	for i := range model {
		for j := range 2 {
			m, err := n.Take(0)
			if err != api.OK || !msg.Same(m, model[i]) {
				t.Errorf("Take of message %d, %d: %+v, %d", i, j, m, err)
			}
			scribble(m)
		}
	}
	still(t, "writing into what was taken", c, before)
}
