package link

import "towpath/msg"

// Way is where a packet goes.
type Way struct{ From, To int }

// state is what a net knows of a way. The packets are counted here as each Send asks for their number.
type state struct {
	packets int
	closed  bool
}

func wayOf(m msg.Msg) Way { return Way{From: m.From, To: m.To} }

// meets reports whether a way begins or ends at a node.
func (w Way) meets(node int) bool { return w.From == node || w.To == node }

// Cut closes a way: what is sent on it from now on is lost.
func (n *Net) Cut(w Way) { n.shut(w, true) }

// Join opens a way.
func (n *Net) Join(w Way) { n.shut(w, false) }

// Lose removes all packets from and to a node, and returns how many there were.
func (n *Net) Lose(node int) int {
	if n == nil {
		return 0
	}
	var rest []packet
	for _, p := range n.queue {
		if p.meets(node) {
			n.count(p.Way, -1)
		} else {
			rest = append(rest, p)
		}
	}
	lost := len(n.queue) - len(rest)
	n.queue = rest
	return lost
}

// On returns how many packets are on a way.
func (n *Net) On(w Way) int {
	if n == nil {
		return 0
	}
	return n.ways[w].packets
}

// Open reports whether a way is open.
func (n *Net) Open(w Way) bool { return n != nil && !n.ways[w].closed }

func (n *Net) shut(w Way, closed bool) {
	if n == nil {
		return
	}
	s := n.ways[w]
	s.closed = closed
	n.note(w, s)
}

func (n *Net) count(w Way, more int) {
	s := n.ways[w]
	s.packets += more
	n.note(w, s)
}

// note keeps the state of a way. One that is open and empty is as one that was never used, so that nothing is left of it.
func (n *Net) note(w Way, s state) {
	if s == (state{}) {
		delete(n.ways, w)
		return
	}
	if n.ways == nil {
		n.ways = map[Way]state{}
	}
	n.ways[w] = s
}
