package link_test

import (
	"math"
	"testing"

	"towpath/api"
)

// P17.4 and P17.5: ways that are open, that are closed, and such as no message may have.
func TestCut(t *testing.T) {
	for _, w := range ways() {
		n := newNet(t, 1)
		fresh := seen(n)
		n.Join(w)
		still(t, "Join of an open way", n, fresh)
		n.Cut(w)
		once := seen(n)
		for _, other := range ways() {
			if n.Open(other) != (other != w) {
				t.Errorf("Cut(%v): %v: %v", w, other, n.Open(other))
			}
		}
		n.Cut(w)
		still(t, "Cut of a closed way", n, once)
		n.Join(w)
		still(t, "Cut twice and Join once", n, fresh)
		n.Cut(w)
		n.Join(way(w.To+1, w.From+1))
		still(t, "Join of another way", n, once)
	}
}

// P17.4: packets stay when their way is closed, and can be taken; what is sent then is lost.
func TestCutPackets(t *testing.T) {
	n := three(t)
	n.Cut(way(1, 2))
	has(t, "Cut", n, order(0, 1, 2)...)
	if n.On(way(1, 2)) != 2 || n.On(way(2, 1)) != 1 || n.Open(way(1, 2)) || !n.Open(way(2, 1)) {
		t.Error("Cut:", seen(n))
	}
	want(t, "Send", n.Send(beat(1, 2, 5)), api.OK)
	want(t, "Later", n.Later(0), api.OK)
	has(t, "Later", n, order(1, 2, 0)...)
	if m, err := n.Take(1); err != api.OK || head(m) != "1-2:2" {
		t.Errorf("Take on a closed way: %v, %d", m, err)
	}
	want(t, "Send", n.Send(beat(1, 2, 6)), api.OK)
	has(t, "Send on a closed way", n, order(1, 0)...)
	want(t, "Drop", n.Drop(1), api.OK)
	if n.Open(way(1, 2)) {
		t.Error("a closed way is open when its last packet has gone")
	}
	n.Join(way(1, 2))
	want(t, "Send", n.Send(beat(1, 2, 7)), api.OK)
	has(t, "Join", n, "2-1:1", "1-2:7")
}

// P17.4: nodes from which, to which and past which packets go.
func TestLose(t *testing.T) {
	for node, gone := range map[int]int{1: 4, 2: 3, 3: 3, 4: 1, 0: 0, 5: 0, -1: 0, 1000: 0, math.MinInt: 0, math.MaxInt: 0} {
		n := newNet(t, 2)
		n.Send(beat(1, 2, 0), beat(2, 3, 1), beat(3, 1, 2), beat(4, 4, 3), beat(1, 3, 4), beat(1, 2, 5), beat(6, 7, 6))
		n.Cut(way(1, 2))
		n.Cut(way(2, 1))
		before := seen(n)
		if k := n.Lose(node); k != gone || n.Len() != 7-gone {
			t.Errorf("Lose(%d): %d, %d are left", node, k, n.Len())
		}
		for i := range n.Len() {
			if w, _ := n.Way(i); w.From == node || w.To == node {
				t.Errorf("Lose(%d): a packet on %v", node, w)
			}
		}
		if n.Open(way(1, 2)) || n.Open(way(2, 1)) || !n.Open(way(2, 3)) {
			t.Errorf("Lose(%d) changes ways", node)
		}
		if gone == 0 {
			still(t, "Lose of none", n, before)
		}
		if k := n.Lose(node); k != 0 {
			t.Errorf("Lose(%d) again: %d", node, k)
		}
	}
	n := newNet(t, 2)
	if k := n.Lose(0); k != 0 {
		t.Error("Lose where there is none:", k)
	}
	n.Send(beat(1, 2, 0), beat(2, 3, 1), beat(1, 3, 2), beat(3, 4, 3), beat(1, 2, 4))
	n.Lose(2)
	has(t, "Lose(2)", n, "1-3:2", "3-4:3")
	want(t, "there is room again", n.Send(beats(1, 2, 5, 2)...), api.OK)
	want(t, "and no more", n.Send(beat(1, 2, 7)), api.ErrFull)
}
