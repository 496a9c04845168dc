package link_test

import (
	"fmt"
	"math"
	"testing"

	"towpath/api"
	"towpath/link"
	"towpath/msg"
)

// P17.1: bounds at the edges, and beyond them.
func TestNew(t *testing.T) {
	for _, bound := range []int{0, -1, 4097, 1 << 32, 1<<32 + 1, math.MinInt, math.MaxInt} {
		if n, err := link.New(bound); n != nil || err != api.ErrArg {
			t.Errorf("New(%d): %v, %d", bound, n, err)
		}
	}
	for _, bound := range []int{1, 2, 4095, 4096} {
		n := newNet(t, bound)
		if n.Len() != 0 {
			t.Error("a new net has", n.Len(), "packets")
		}
		for _, w := range ways() {
			if !n.Open(w) || n.On(w) != 0 {
				t.Errorf("a new net: %v: %v, %d", w, n.Open(w), n.On(w))
			}
		}
		want(t, "as many as may be", n.Send(beats(1, 2, 0, bound)...), api.OK)
		want(t, "and one more", n.Send(beat(1, 2, 9)), api.ErrFull)
		if n.Len() != bound || n.On(way(1, 2)) != bound {
			t.Error("New", bound, "has", n.Len(), "packets and", n.On(way(1, 2)))
		}
		if m, err := n.Take(bound - 1); err != api.OK || head(m) != head(beat(1, 2, int64(bound-1))) {
			t.Errorf("the last of %d: %v, %d", bound, m, err)
		}
	}
}

// The chapter's example.
func TestExample(t *testing.T) {
	n := newNet(t, 2)
	m := beat(1, 2, 7)
	want(t, "Send", n.Send(m), api.OK)
	want(t, "Send", n.Send(m), api.OK)
	want(t, "Send of a third one", n.Send(m), api.ErrFull)
	want(t, "Twice", n.Twice(0), api.ErrFull)
	want(t, "Drop", n.Drop(0), api.OK)
	want(t, "Twice", n.Twice(0), api.OK)
	if got, err := n.Take(1); err != api.OK || !msg.Same(got, m) || n.Len() != 1 {
		t.Errorf("Take: %v, %d, %d packets", got, err, n.Len())
	}
}

// P1: no call of a net that is none panics.
func TestNil(t *testing.T) {
	var n *link.Net
	for _, i := range append(far, 0, 1) {
		what := fmt.Sprint("packet ", i)
		if m, err := n.Take(i); err != api.ErrNil || !msg.Same(m, msg.Msg{}) {
			t.Errorf("%s: Take: %v, %d", what, m, err)
		}
		want(t, what+": Drop", n.Drop(i), api.ErrNil)
		want(t, what+": Twice", n.Twice(i), api.ErrNil)
		want(t, what+": Later", n.Later(i), api.ErrNil)
		want(t, what+": Spoil", n.Spoil(i, i, 1), api.ErrNil)
		if w, ok := n.Way(i); ok || w != (link.Way{}) {
			t.Errorf("%s: Way: %v, %v", what, w, ok)
		}
		if b := n.Raw(i); len(b) != 0 {
			t.Errorf("%s: Raw: %x", what, b)
		}
		if k := n.Lose(i); k != 0 {
			t.Errorf("Lose(%d): %d", i, k)
		}
	}
	want(t, "Send of none", n.Send(), api.ErrNil)
	want(t, "Send", n.Send(beat(1, 2, 3)), api.ErrNil)
	want(t, "Send of what is not valid", n.Send(msg.Msg{}), api.ErrNil)
	n.Cut(way(1, 2))
	n.Join(way(1, 2))
	if n.Len() != 0 || n.On(way(1, 2)) != 0 || n.Open(way(1, 2)) || n.Copy() != nil {
		t.Error("nil:", n.Len(), n.On(way(1, 2)), n.Open(way(1, 2)), n.Copy())
	}
}

// P17.5: a net, its copy and a copy of that go on by themselves.
func TestCopy(t *testing.T) {
	n := newNet(t, 3)
	n.Send(beat(1, 2, 1), beat(2, 1, 2), beat(1, 2, 3))
	n.Cut(way(2, 1))
	n.Cut(way(3, 1))
	changes := map[string]func(n *link.Net){
		"Send":             func(n *link.Net) { n.Send(beat(1, 2, 4), beat(3, 4, 5)) },
		"Take of the last": func(n *link.Net) { n.Take(2) },
		"Take of another":  func(n *link.Net) { n.Take(0) },
		"Drop":             func(n *link.Net) { n.Drop(1) },
		"Twice":            func(n *link.Net) { n.Twice(1) },
		"Later":            func(n *link.Net) { n.Later(0) },
		"Spoil":            func(n *link.Net) { n.Spoil(1, 3, 5) },
		"Cut":              func(n *link.Net) { n.Cut(way(1, 2)) },
		"Join":             func(n *link.Net) { n.Join(way(2, 1)) },
		"Lose":             func(n *link.Net) { n.Lose(2) },
		"nothing":          func(n *link.Net) {},
	}
	before := seen(n)
	for what, change := range changes {
		one := n.Copy()
		two := one.Copy()
		still(t, "Copy", one, before)
		change(one)
		after := seen(one)
		if (after == before) != (what == "nothing") {
			t.Errorf("%s changes nothing", what)
		}
		still(t, what+" in a copy", n, before)
		still(t, what+" in what was copied", two, before)
		for other, change := range changes {
			change(two)
			still(t, other+" in a copy behind "+what, one, after)
		}
		for range 3 { // what is appended here and there is not the same
			one.Send(beat(4, 3, 1))
			two.Send(beat(4, 3, 2))
		}
		if last, _ := one.Take(one.Len() - 1); last.Id != 1 {
			t.Errorf("behind %s: Take of what was sent: %v", what, last)
		}
	}
	still(t, "in the end", n, before)
	if full := n.Copy(); full.Send(beats(1, 2, 1, 1)...) != api.OK || full.Send(beat(1, 2, 2)) != api.ErrFull {
		t.Error("a copy has another bound")
	}
}

// Rule 4 and P17.5: bytes of a packet that are written into, and packets that come of one.
func TestRaw(t *testing.T) {
	n := newNet(t, 9)
	for _, m := range kinds() {
		n.Send(m)
	}
	n.Twice(0)
	c := n.Copy()
	before := seen(n)
	for i := range n.Len() {
		first, second := n.Raw(i), n.Raw(i)
		_ = append(first, 1, 2, 3)
		clear(first)
		still(t, "writing into Raw", n, before)
		still(t, "writing into Raw", c, before)
		if len(first) != len(second) || string(first) == string(second) {
			t.Errorf("two answers of Raw share memory: %x", second)
		}
	}
	raw := n.Raw(0)
	want(t, "Spoil", n.Spoil(4, 0, 1), api.OK)
	if string(n.Raw(0)) != string(raw) || string(n.Raw(4)) == string(raw) {
		t.Error("Spoil of a packet that was sent twice:", n.Raw(0), n.Raw(4))
	}
	want(t, "Spoil", n.Spoil(0, 9, 1<<31), api.OK)
	if string(n.Raw(0)) == string(raw) || string(n.Raw(4)) != spoilt(string(raw), 0, 1) {
		t.Error("Spoil of a packet of which there is another:", n.Raw(0), n.Raw(4))
	}
	still(t, "Spoil in what it was copied from", c, before)
}
