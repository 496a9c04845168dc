package link

import (
	"towpath/api"
	"towpath/msg"
)

// Send has messages become packets, all of them or none. Those whose way is closed are lost.
func (n *Net) Send(ms ...msg.Msg) api.Errno {
	if n == nil {
		return api.ErrNil
	}
	l, err := n.packets(ms)
	if err == api.OK {
		n.add(l...)
	}
	return err
}

// packets returns what messages become, and the error of the first one that may not be sent.
func (n *Net) packets(ms []msg.Msg) ([]packet, api.Errno) {
	var l []packet
	on := map[Way]int{}
	for _, m := range ms {
		raw, err := msg.Encode(m)
		if err != api.OK {
			return nil, err
		}
		w := wayOf(m)
		if !n.Open(w) {
			continue
		}
		if n.On(w)+on[w] >= n.bound {
			return nil, api.ErrFull
		}
		on[w]++
		l = append(l, packet{Way: w, raw: string(raw)})
	}
	return l, api.OK
}
