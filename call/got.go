package call

import "towpath/msg"

// Got returns the open request to which r is the reply, and closes it.
func (c *Caller) Got(r msg.Msg) (msg.Msg, bool) {
	i, ok := c.find(r.Id)
	if !ok || msg.Answer(c.open[i].Msg).Head != r.Head {
		return msg.Msg{}, false
	}
	return c.shut(i).message(), true
}

// Give closes the open requests of some numbers, and returns how many there were.
func (c *Caller) Give(ids ...int64) int {
	given := 0
	for _, id := range ids {
		if i, ok := c.find(id); ok {
			c.shut(i)
			given++
		}
	}
	return given
}
