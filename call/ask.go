package call

import (
	"towpath/api"
	"towpath/msg"
)

// Ask opens a request, and returns it as it is to be sent.
func (c *Caller) Ask(m msg.Msg, now int64) (msg.Msg, api.Errno) {
	if c == nil {
		return msg.Msg{}, api.ErrNil
	}
	m.From, m.Id = c.node, c.next
	if err := c.may(m, now); err != api.OK {
		return msg.Msg{}, err
	}
	q := request{Msg: msg.Copy(m), wait: c.config.First, due: now + c.config.First}
	c.open = append(c.open, q)
	c.next++
	return q.message(), api.OK
}

// may returns the error of a message that is to be asked.
func (c *Caller) may(m msg.Msg, now int64) api.Errno {
	switch {
	case !isTime(now) || m.Reply:
		return api.ErrArg
	case m.Id > api.MaxTime:
		return api.ErrExhausted
	}
	if err := msg.Valid(m); err != api.OK {
		return err
	}
	if len(c.open) >= c.config.Open {
		return api.ErrFull
	}
	return api.OK
}

// message returns what may be handed out.
func (q request) message() msg.Msg { return msg.Copy(q.Msg) }

// Tick returns the requests that are due, and has each of them wait anew.
func (c *Caller) Tick(now int64) []msg.Msg {
	if c == nil || !isTime(now) {
		return nil
	}
	var l []msg.Msg
	for i := range c.open {
		if q := &c.open[i]; q.due <= now {
			q.wait = min(2*q.wait, c.config.Last)
			q.due = now + q.wait
			l = append(l, q.message())
		}
	}
	return l
}
