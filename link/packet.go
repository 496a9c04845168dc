package link

import (
	"towpath/api"
	"towpath/msg"
)

// burst is how many bytes of a packet are spoilt at once.
const burst = 4

// Take removes packet i, and returns its message, if it is one still.
func (n *Net) Take(i int) (msg.Msg, api.Errno) {
	p, err := n.find(i)
	if err != api.OK {
		return msg.Msg{}, err
	}
	n.remove(i)
	m, err := msg.Decode([]byte(p.raw))
	if err != api.OK || wayOf(m) != p.Way {
		return msg.Msg{}, api.ErrForm
	}
	return m, api.OK
}

// Drop removes packet i.
func (n *Net) Drop(i int) api.Errno {
	_, err := n.find(i)
	if err == api.OK {
		n.remove(i)
	}
	return err
}

// Twice appends a copy of packet i.
func (n *Net) Twice(i int) api.Errno {
	p, err := n.find(i)
	switch {
	case err != api.OK:
		return err
	case n.On(p.Way) >= n.bound:
		return api.ErrFull
	}
	n.add(p)
	return api.OK
}

// Later moves packet i to the end.
func (n *Net) Later(i int) api.Errno {
	p, err := n.find(i)
	if err == api.OK {
		n.remove(i)
		n.add(p)
	}
	return err
}

// Spoil flips bits of packet i, within 32 of them that begin at a byte.
func (n *Net) Spoil(i int, at int, bits uint32) api.Errno {
	p, err := n.find(i)
	if err == api.OK {
		n.queue[i].raw = flipped(p.raw, at, bits)
	}
	return err
}

// flipped counts from the end where at is below 0. All encodings are longer than a burst.
func flipped(raw string, at int, bits uint32) string {
	b := []byte(raw)
	places := len(b) - burst + 1
	first := (at%places + places) % places
	for k := range burst {
		b[first+k] ^= byte(bits >> (8 * k))
	}
	return string(b)
}

// Len returns how many packets there are.
func (n *Net) Len() int {
	if n == nil {
		return 0
	}
	return len(n.queue)
}

// Way returns where packet i goes.
func (n *Net) Way(i int) (Way, bool) {
	p, err := n.find(i)
	return p.Way, err == api.OK
}

// Raw returns the bytes of packet i.
func (n *Net) Raw(i int) []byte {
	p, _ := n.find(i)
	return []byte(p.raw)
}
