package call

import "towpath/api"

// requests returns those that are open, without copying them.
func (c *Caller) requests() []request {
	if c == nil {
		return nil
	}
	return c.open
}

// Open returns the numbers of the open requests.
func (c *Caller) Open() []int64 {
	var l []int64
	for _, q := range c.requests() {
		l = append(l, q.Id)
	}
	return l
}

// Next returns the number of the next request.
func (c *Caller) Next() int64 {
	if c == nil {
		return 0
	}
	return c.next
}

// Due returns when the next request is due. Times that never occur come out as one.
func (c *Caller) Due() (int64, bool) {
	l := c.requests()
	if len(l) == 0 {
		return 0, false
	}
	due := int64(api.MaxTime + 1)
	for _, q := range l {
		due = min(due, q.due)
	}
	return due, true
}
