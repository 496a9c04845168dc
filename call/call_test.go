package call_test

import (
	"fmt"
	"math"
	"slices"
	"testing"

	"towpath/api"
	"towpath/call"
	"towpath/msg"
)

// P18.1: nodes, numbers and configs at their edges, and beyond them.
func TestNew(t *testing.T) {
	const most = api.MaxTime
	type args struct {
		node int
		from int64
		c    call.Config
	}
	good := args{5, 7, usual}
	try := func(what string, ok bool, edit func(a *args)) {
		a := good
		edit(&a)
		c, err := call.New(a.node, a.from, a.c)
		if !ok {
			if c != nil || err != api.ErrArg {
				t.Errorf("New with %s: %v, %d", what, c, err)
			}
			return
		}
		if err != api.OK || c == nil {
			t.Fatalf("New with %s: %v, %d", what, c, err)
		}
		if at, ok := c.Due(); c.Next() != a.from || len(c.Open()) != 0 || at != 0 || ok {
			t.Errorf("New with %s: next %d, open %v, due %d %v", what, c.Next(), c.Open(), at, ok)
		}
		if m := ask(t, c, beat(2), 0); m.From != a.node || m.Id != a.from {
			t.Errorf("New with %s: Ask: %+v", what, m)
		}
		due(t, what, c, a.c.First)
	}
	for n, ok := range map[int]bool{-1: false, 0: true, 1: true, 999: true, 1000: false, math.MinInt: false, math.MaxInt: false} {
		try(fmt.Sprint("node ", n), ok, func(a *args) { a.node = n })
	}
	for n, ok := range map[int64]bool{-1: false, 0: true, 1: true, most: true, most + 1: false, math.MinInt64: false, math.MaxInt64: false} {
		try(fmt.Sprint("from ", n), ok, func(a *args) { a.from = n })
	}
	for n, ok := range map[int]bool{-1: false, 0: false, 1: true, 1024: true, 1025: false, math.MinInt: false, math.MaxInt: false} {
		try(fmt.Sprint("open ", n), ok, func(a *args) { a.c.Open = n })
	}
	edges := []int64{math.MinInt64, -1, 0, 1, 2, most - 1, most, most + 1, math.MaxInt64}
	for _, first := range edges {
		for _, last := range edges {
			ok := 1 <= first && first <= last && last <= most
			try(fmt.Sprint("first ", first, " and last ", last), ok, func(a *args) { a.c.First, a.c.Last = first, last })
		}
	}
	try("nothing", false, func(a *args) { *a = args{} })
}

// The chapter's example.
func TestExample(t *testing.T) {
	c := newCaller(t, 101, 0, usual)
	m := ask(t, c, beat(1), 10)
	ticks(t, c, 11)
	if l := c.Tick(12); len(l) != 1 || !msg.Same(l[0], m) {
		t.Errorf("Tick(12): %+v", l)
	}
	for _, at := range []int64{16, 21, 26} {
		due(t, "then", c, at)
		ticks(t, c, at-1)
		ticks(t, c, at, 0)
	}
	if q, ok := c.Got(msg.Answer(m)); !ok || !msg.Same(q, m) {
		t.Errorf("Got: %+v, %v", q, ok)
	}
	if q, ok := c.Got(msg.Answer(m)); ok || !msg.Same(q, msg.Msg{}) {
		t.Errorf("Got, the second time: %+v, %v", q, ok)
	}
}

// P1: no call of a caller that is none panics.
func TestNil(t *testing.T) {
	var c *call.Caller
	for _, now := range []int64{-1, 0, 7, api.MaxTime + 1} {
		if m, err := c.Ask(beat(1), now); err != api.ErrNil || !msg.Same(m, msg.Msg{}) {
			t.Errorf("Ask: %+v, %d", m, err)
		}
		if l := c.Tick(now); len(l) != 0 {
			t.Errorf("Tick: %+v", l)
		}
	}
	if m, err := c.Ask(msg.Msg{Head: msg.Head{Reply: true}}, 1); err != api.ErrNil || !msg.Same(m, msg.Msg{}) {
		t.Errorf("Ask: %+v, %d", m, err)
	}
	for _, r := range []msg.Msg{{}, beat(1), msg.Answer(beat(1))} {
		if m, ok := c.Got(r); ok || !msg.Same(m, msg.Msg{}) {
			t.Errorf("Got: %+v, %v", m, ok)
		}
	}
	at, ok := c.Due()
	if c.Give() != 0 || c.Give(0, 1) != 0 || len(c.Open()) != 0 || c.Next() != 0 || at != 0 || ok || c.Copy() != nil {
		t.Error("nil:", c.Give(), c.Open(), c.Next(), at, ok, c.Copy())
	}
}

// busy is a caller with three requests: 5, which has waited twice, and 6 and 7.
func busy(t *testing.T) *call.Caller {
	c := newCaller(t, 1, 5, usual)
	ask(t, c, kinds()[0], 0)
	ticks(t, c, 2, 5)
	ask(t, c, kinds()[1], 3)
	ask(t, c, beat(4), 4)
	return c
}

// P18.4: a caller, its copy and a copy of that go on by themselves.
func TestCopy(t *testing.T) {
	c := busy(t)
	changes := map[string]func(c *call.Caller){
		"Ask":               func(c *call.Caller) { c.Ask(beat(3), 9) },
		"Tick":              func(c *call.Caller) { c.Tick(6) },
		"Tick of one":       func(c *call.Caller) { c.Tick(5) },
		"Got of the first":  func(c *call.Caller) { c.Got(msg.Answer(asked(kinds()[0], 1, 5))) },
		"Give of one":       func(c *call.Caller) { c.Give(6) },
		"Give of the first": func(c *call.Caller) { c.Give(5, 6) },
		"nothing":           func(c *call.Caller) {},
	}
	before := seen(c)
	for what, change := range changes {
		one := c.Copy()
		two := one.Copy()
		still(t, "Copy", one, before)
		change(one)
		after := seen(one)
		if (after == before) != (what == "nothing") {
			t.Errorf("%s changes nothing", what)
		}
		still(t, what+" in a copy", c, before)
		still(t, what+" in what was copied", two, before)
		for other, change := range changes {
			change(two)
			still(t, other+" in a copy behind "+what, one, after)
		}
		one.Ask(beat(3), 1) // what is appended here and there is not the same
		two.Ask(beat(4), 1)
		two.Ask(beat(4), 1)
		l := one.Tick(3)
		if i := len(l) - 1; len(l) > 0 && l[i].Id >= 8 && l[i].To != 3 {
			t.Errorf("behind %s: Tick of what was asked: %+v", what, l[i])
		}
	}
	still(t, "in the end", c, before)
	full := c.Copy()
	ask(t, full, beat(1), 0)
	if _, err := full.Ask(beat(1), 0); err != api.ErrFull {
		t.Error("a copy has another config:", err)
	}
}

// Rules 4 and 5: messages that are written into behind Ask, and such as Ask, Tick and Got returned; numbers likewise.
func TestShared(t *testing.T) {
	for i, m := range kinds() {
		c := newCaller(t, 1, 5, usual)
		model := asked(kinds()[i], 1, 5)
		first := ask(t, c, m, 0)
		if !msg.Same(m, kinds()[i]) || !msg.Same(first, model) {
			t.Errorf("Ask of message %d: %+v, %+v", i, m, first)
		}
		twin := c.Copy()
		before := seen(c)
		scribble(m)
		if !msg.Same(first, model) {
			t.Errorf("writing into what was asked changes what Ask returned: %+v", first)
		}
		still(t, "writing into what was asked", c, before)
		scribble(first)
		still(t, "writing into what Ask returned", c, before)
		for _, at := range []int64{2, 6} {
			l := c.Tick(at)
			if len(l) != 1 || !msg.Same(l[0], model) {
				t.Errorf("Tick(%d) of message %d: %+v", at, i, l)
			}
			before := seen(c)
			scribble(l[0])
			_ = append(l, msg.Msg{})
			clear(l)
			still(t, "writing into what Tick returned", c, before)
		}
		numbers := c.Open()
		_ = append(numbers, 9)
		clear(numbers)
		open(t, "writing into what Open returned", c, 5)
		r := msg.Answer(model)
		r.Ints = []int{1, 2}
		q, ok := c.Got(r)
		if !ok || !msg.Same(q, model) || !slices.Equal(r.Ints, []int{1, 2}) {
			t.Errorf("Got of message %d: %+v, %v", i, q, ok)
		}
		scribble(q)
		still(t, "writing into what a twin returned", twin, before)
	}
	c := busy(t)
	numbers := []int64{6, 9, 6}
	if k := c.Give(numbers...); k != 1 || !slices.Equal(numbers, []int64{6, 9, 6}) {
		t.Error("Give:", k, numbers)
	}
	before := seen(c)
	numbers[0] = 5
	still(t, "writing into the numbers of Give", c, before)
}
