package call_test

import (
	"fmt"
	"math"
	"testing"

	"towpath/api"
	"towpath/call"
	"towpath/msg"
)

// P18.3: at no time nothing is due, and nothing waits anew.
func TestTickTimes(t *testing.T) {
	c := busy(t)
	before := seen(c)
	for _, now := range []int64{-1, math.MinInt64, api.MaxTime + 1, math.MaxInt64, 0, 4} {
		if l := c.Tick(now); len(l) != 0 {
			t.Errorf("Tick(%d): %+v", now, l)
		}
		still(t, fmt.Sprintf("Tick(%d)", now), c, before)
	}
	none := newCaller(t, 1, 5, usual)
	ticks(t, none, 0)
	ticks(t, none, api.MaxTime)
	open(t, "Tick of none", none)
	edge := newCaller(t, 1, 5, call.Config{First: api.MaxTime, Last: api.MaxTime, Open: 2})
	ask(t, edge, beat(2), 0)
	ticks(t, edge, api.MaxTime-1)
	ticks(t, edge, api.MaxTime, 5)
	ticks(t, edge, api.MaxTime)
	due(t, "due at MaxTime, and repeated", edge, api.MaxTime+1)
}

// P18.3: a wait doubles up to Last, which it reaches, misses, or has from the first on.
func TestWaits(t *testing.T) {
	for _, w := range []struct {
		first, last int64
		waits       []int64
	}{
		{2, 5, []int64{2, 4, 5, 5, 5}},
		{1, 8, []int64{1, 2, 4, 8, 8, 8}},
		{1, 7, []int64{1, 2, 4, 7, 7}},
		{1, 9, []int64{1, 2, 4, 8, 9, 9}},
		{3, 3, []int64{3, 3, 3}},
		{3, 4, []int64{3, 4, 4}},
		{3, 5, []int64{3, 5, 5}},
		{3, 6, []int64{3, 6, 6}},
		{3, 7, []int64{3, 6, 7, 7}},
		{1, 1, []int64{1, 1, 1}},
		{1 << 37, api.MaxTime, []int64{1 << 37, 1 << 38, 1 << 39}},
	} {
		c := newCaller(t, 1, 0, call.Config{First: w.first, Last: w.last, Open: 1})
		now := int64(100)
		m := ask(t, c, beat(2), now)
		for i, wait := range w.waits {
			what := fmt.Sprintf("%d to %d, wait %d", w.first, w.last, i)
			now += wait
			due(t, what, c, now)
			ticks(t, c, now-1)
			due(t, what+", one ahead", c, now)
			if l := c.Tick(now); len(l) != 1 || !msg.Same(l[0], m) {
				t.Errorf("%s: Tick(%d): %+v", what, now, l)
			}
			ticks(t, c, now)
		}
	}
}

// P18.3: long behind the time the request comes once, and waits from now on.
func TestTickLate(t *testing.T) {
	c := newCaller(t, 1, 0, usual)
	ask(t, c, beat(2), 10)
	ticks(t, c, 1000, 0)
	due(t, "long behind it", c, 1004)
	ticks(t, c, 1003)
	ticks(t, c, 1005, 0)
	due(t, "one behind it", c, 1010)
	ticks(t, c, 7)
	due(t, "a time that has passed", c, 1010)
}

// P18.3: several that are due at once come by their numbers, whenever each was asked; the others do not.
func TestTickSeveral(t *testing.T) {
	c := newCaller(t, 1, 7, usual)
	ask(t, c, beat(2), 20)
	ask(t, c, beat(3), 10)
	ask(t, c, beat(4), 18)
	ask(t, c, beat(5), 21)
	due(t, "four", c, 12)
	ticks(t, c, 11)
	ticks(t, c, 12, 8)
	due(t, "behind the second one", c, 16)
	ticks(t, c, 22, 7, 8, 9)
	due(t, "the last one", c, 23)
	ticks(t, c, 23, 10)
	due(t, "three at once", c, 26)
	ticks(t, c, 26, 7, 9)
	ticks(t, c, 27, 8, 10)
	open(t, "all are open", c, 7, 8, 9, 10)
	c.Give(8)
	ticks(t, c, 40, 7, 9, 10)
}

// P18.3: none, one and several, and what is due at no time any more.
func TestDue(t *testing.T) {
	c := newCaller(t, 1, 0, usual)
	none := func(what string) {
		t.Helper()
		if at, ok := c.Due(); at != 0 || ok {
			t.Errorf("%s: Due: %d, %v", what, at, ok)
		}
	}
	none("a new caller")
	ask(t, c, beat(2), api.MaxTime)
	due(t, "one that never is", c, api.MaxTime+1)
	ticks(t, c, api.MaxTime)
	ask(t, c, beat(2), api.MaxTime-1)
	due(t, "two that never are", c, api.MaxTime+1)
	ask(t, c, beat(2), api.MaxTime-2)
	due(t, "one that is, at MaxTime", c, api.MaxTime)
	ask(t, c, beat(2), 10)
	due(t, "another one that is", c, 12)
	c.Give(3)
	due(t, "without that", c, api.MaxTime)
	ticks(t, c, api.MaxTime, 2)
	due(t, "repeated at MaxTime", c, api.MaxTime+1)
	open(t, "all that never are", c, 0, 1, 2)
	c.Give(0, 1, 2)
	none("all are given up")
	ask(t, c, beat(2), 0)
	c.Got(msg.Answer(asked(beat(2), 1, 4)))
	none("answered")
}

// P18.6: whatever is asked, at each tick the last time is at most Last ago, if Tick is called at each.
func TestRepeated(t *testing.T) {
	for _, config := range []call.Config{{First: 2, Last: 5, Open: 9}, {First: 1, Last: 1, Open: 9}, {First: 3, Last: 20, Open: 9}, {First: 7, Last: 7, Open: 9}} {
		c := newCaller(t, 1, 0, config)
		last := map[int64]int64{}
		count := map[int64]int{}
		for now := range int64(200) {
			for _, m := range c.Tick(now) {
				last[m.Id] = now
				count[m.Id]++
			}
			if now%7 == 0 && now < 60 {
				last[ask(t, c, beat(2), now).Id] = now
			}
			if now == 100 {
				c.Give(2)
				c.Got(msg.Answer(asked(beat(2), 1, 5)))
			}
			for _, id := range c.Open() {
				if now-last[id] >= config.Last {
					t.Errorf("%v: %d was sent at %d, and not again till %d", config, id, last[id], now)
				}
			}
		}
		for _, id := range c.Open() {
			if count[id] < int(130/config.Last) {
				t.Errorf("%v: %d was sent again %d times", config, id, count[id])
			}
		}
		open(t, "neither answered nor given up", c, 0, 1, 3, 4, 6, 7, 8)
	}
}
