package link_test

import (
	"fmt"
	"math"
	"math/rand"
	"testing"

	"towpath/api"
	"towpath/link"
	"towpath/msg"
)

// three is a net with packets on two ways.
func three(t *testing.T) *link.Net {
	n := newNet(t, 2)
	want(t, "Send", n.Send(beat(1, 2, 0), beat(2, 1, 1), beat(1, 2, 2)), api.OK)
	return n
}

// P17.3 and P17.5: packets that are not there, in nets with none, with one and with three.
func TestNone(t *testing.T) {
	one := newNet(t, 1)
	one.Send(beat(1, 2, 0))
	for _, n := range []*link.Net{newNet(t, 1), one, three(t)} {
		before := seen(n)
		for _, i := range append(far, n.Len(), n.Len()+1) {
			what := fmt.Sprintf("packet %d of %d", i, n.Len())
			if m, err := n.Take(i); err != api.ErrNone || !msg.Same(m, msg.Msg{}) {
				t.Errorf("%s: Take: %v, %d", what, m, err)
			}
			want(t, what+": Drop", n.Drop(i), api.ErrNone)
			want(t, what+": Twice", n.Twice(i), api.ErrNone)
			want(t, what+": Later", n.Later(i), api.ErrNone)
			want(t, what+": Spoil", n.Spoil(i, 0, 1), api.ErrNone)
			want(t, what+": Spoil far away", n.Spoil(i, math.MinInt, 0), api.ErrNone)
			if w, ok := n.Way(i); ok || w != (link.Way{}) {
				t.Errorf("%s: Way: %v, %v", what, w, ok)
			}
			if b := n.Raw(i); len(b) != 0 {
				t.Errorf("%s: Raw: %x", what, b)
			}
			still(t, what, n, before)
		}
	}
}

// order is the packets of three, in another order.
func order(ids ...int) []string {
	var l []string
	for _, id := range ids {
		l = append(l, []string{"1-2:0", "2-1:1", "1-2:2"}[id])
	}
	return l
}

// P17.3: each packet of three is taken, dropped, and moved to the end; the others stay in their order.
func TestEach(t *testing.T) {
	without := [][]int{{1, 2}, {0, 2}, {0, 1}}
	for i, rest := range without {
		n := three(t)
		if m, err := n.Take(i); err != api.OK || head(m) != order(i)[0] {
			t.Errorf("Take(%d): %v, %d", i, m, err)
		}
		has(t, fmt.Sprintf("Take(%d)", i), n, order(rest...)...)
		n = three(t)
		want(t, "Drop", n.Drop(i), api.OK)
		has(t, fmt.Sprintf("Drop(%d)", i), n, order(rest...)...)
		n = three(t)
		want(t, "Later", n.Later(i), api.OK)
		has(t, fmt.Sprintf("Later(%d)", i), n, order(append(rest, i)...)...)
		if n.On(way(1, 2)) != 2 || n.On(way(2, 1)) != 1 {
			t.Errorf("Later(%d): %d and %d packets", i, n.On(way(1, 2)), n.On(way(2, 1)))
		}
	}
	n := newNet(t, 1)
	n.Send(beat(1, 2, 0))
	before := seen(n)
	want(t, "Later of the only one", n.Later(0), api.OK)
	still(t, "Later of the only one", n, before)
	want(t, "Drop of the only one", n.Drop(0), api.OK)
	has(t, "Drop of the only one", n)
}

// P17.3 and P17.8: Twice on a way with as many packets as may be, with one fewer, and on one that is closed.
func TestTwice(t *testing.T) {
	n := three(t)
	before := seen(n)
	want(t, "a full way", n.Twice(0), api.ErrFull)
	want(t, "a full way", n.Twice(2), api.ErrFull)
	still(t, "a full way", n, before)
	want(t, "one fewer", n.Twice(1), api.OK)
	has(t, "one fewer", n, "1-2:0", "2-1:1", "1-2:2", "2-1:1")
	before = seen(n)
	want(t, "full now", n.Twice(1), api.ErrFull)
	want(t, "full now", n.Twice(3), api.ErrFull)
	n.Cut(way(2, 1))
	want(t, "full and closed", n.Twice(3), api.ErrFull)
	n.Join(way(2, 1))
	still(t, "full now", n, before)
	want(t, "no room for what is sent", n.Send(beat(2, 1, 9)), api.ErrFull)
	n.Drop(1)
	n.Cut(way(2, 1))
	want(t, "one fewer, and closed", n.Twice(2), api.OK)
	has(t, "one fewer, and closed", n, "1-2:0", "1-2:2", "2-1:1", "2-1:1")
	for range 2 { // the two are alike, and one stays when the other one goes
		if m, err := n.Take(2); err != api.OK || head(m) != "2-1:1" {
			t.Errorf("Take of one of two: %v, %d", m, err)
		}
	}
}

// spoils are places and bits, with the place that is meant in a packet of this length.
func spoils(size int) map[int]int {
	last := size - 4
	return map[int]int{
		0: 0, 1: 1, last - 1: last - 1, last: last, last + 1: 0, last + 2: 1, 2*last + 1: last, 2*last + 2: 0,
		-1: last, -2: last - 1, -last: 1, -last - 1: 0, -last - 2: last,
		math.MaxInt: math.MaxInt % (last + 1), math.MinInt: (math.MinInt%(last+1) + last + 1) % (last + 1),
	}
}

// P17.3: where and which bits are flipped. Each bit of a packet can be; no other packet changes.
func TestSpoil(t *testing.T) {
	n := three(t)
	n.Send(kinds()[1])
	before := seen(n)
	raw := n.Raw(1)
	for at, place := range spoils(len(raw)) {
		for _, bits := range []uint32{0, 1, 1 << 7, 1 << 8, 1 << 13, 1 << 16, 1 << 23, 1 << 24, 1 << 31, 0x80000001, math.MaxUint32, 0x12345678} {
			what := fmt.Sprintf("Spoil(1, %d, %#x)", at, bits)
			want(t, what, n.Spoil(1, at, bits), api.OK)
			if w := spoilt(string(raw), place, bits); string(n.Raw(1)) != w {
				t.Errorf("%s: %x, not %x", what, n.Raw(1), w)
			}
			want(t, what, n.Spoil(1, at, bits), api.OK)
			still(t, what+" twice", n, before)
		}
	}
	n.Spoil(1, 2, 0x04030201)
	if b := n.Raw(1); b[2] != raw[2]^1 || b[3] != raw[3]^2 || b[4] != raw[4]^3 || b[5] != raw[5]^4 {
		t.Errorf("Spoil by a bit of each byte: %x, not %x", b, raw)
	}
}

// P17.3: the example, and a packet that is spoilt twice by the same bits.
func TestTakeSpoilt(t *testing.T) {
	n := three(t)
	want(t, "Spoil", n.Spoil(1, 0, 1), api.OK)
	c := n.Copy()
	if m, err := n.Take(1); err != api.ErrForm || !msg.Same(m, msg.Msg{}) {
		t.Errorf("Take of what was spoilt: %v, %d", m, err)
	}
	has(t, "Take of what was spoilt", n, order(0, 2)...)
	c.Spoil(1, 0, 1)
	has(t, "spoilt twice", c, order(0, 1, 2)...)
	c.Spoil(1, 7, 0)
	has(t, "spoilt by no bits", c, order(0, 1, 2)...)
}

// P17.7: packets that were spoilt once are no messages, wherever the bits are; none other is the worse for it.
func TestSpoiltOnce(t *testing.T) {
	rnd := rand.New(rand.NewSource(17))
	for _, m := range append(kinds(), beat(1, 2, 7), msg.Refuse(beat(2, 1, 7), api.ErrNone)) {
		raw, _ := msg.Encode(m)
		n := newNet(t, 2)
		n.Send(m, m)
		for at := range len(raw) - 3 {
			for k := range 64 {
				bits := uint32(1) << (k % 32)
				if k >= 32 {
					bits = rnd.Uint32() | bits
				}
				c := n.Copy()
				c.Spoil(0, at, bits)
				if got, err := c.Take(0); err != api.ErrForm || !msg.Same(got, msg.Msg{}) {
					t.Errorf("Take behind Spoil at %d by %#x: %v, %d", at, bits, got, err)
				}
				if got, err := c.Take(0); err != api.OK || !msg.Same(got, m) {
					t.Errorf("Take of the other packet: %v, %d", got, err)
				}
			}
		}
	}
}

// turn spoils a packet till it has these bytes.
func turn(t *testing.T, n *link.Net, i int, m msg.Msg) {
	t.Helper()
	raw, _ := msg.Encode(m)
	if len(raw) != len(n.Raw(i)) {
		t.Fatalf("no way from %x to %x", n.Raw(i), raw)
	}
	for at := range len(raw) - 3 {
		bits := uint32(raw[at] ^ n.Raw(i)[at])
		if at == len(raw)-4 {
			for k := range 4 {
				bits |= uint32(raw[at+k]^n.Raw(i)[at+k]) << (8 * k)
			}
		}
		n.Spoil(i, at, bits)
	}
	if string(n.Raw(i)) != string(raw) {
		t.Fatalf("%x is not %x", n.Raw(i), raw)
	}
}

// P17.3: packets that are messages again, but of another way, or another message of theirs.
func TestTurned(t *testing.T) {
	for _, m := range []msg.Msg{beat(3, 2, 1), beat(1, 3, 1), beat(3, 4, 1), beat(1, 2, 1), beat(2, 2, 1), beat(1, 1, 1)} {
		n := three(t)
		turn(t, n, 1, m)
		if w, ok := n.Way(1); !ok || w != way(2, 1) || n.On(way(2, 1)) != 1 || n.On(way(m.From, m.To)) > 2 {
			t.Errorf("%s: the packet's way is %v, %v", head(m), w, ok)
		}
		if got, err := n.Take(1); err != api.ErrForm || !msg.Same(got, msg.Msg{}) {
			t.Errorf("%s: Take: %v, %d", head(m), got, err)
		}
		has(t, head(m), n, order(0, 2)...)
	}
	n := three(t)
	turn(t, n, 1, beat(2, 1, 9))
	has(t, "another number", n, "1-2:0", "2-1:9", "1-2:2")
}
