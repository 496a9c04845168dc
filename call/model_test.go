package call_test

import (
	"fmt"
	"math/rand"
	"testing"

	"towpath/api"
	"towpath/call"
	"towpath/msg"
)

// twins are a caller and its model, at some time, with what was ever sent.
type twins struct {
	t     *testing.T
	rnd   *rand.Rand
	call  *call.Caller
	model *model
	now   int64
	sent  []msg.Msg
}

func (w *twins) anyRequest() msg.Msg {
	m := beat(w.rnd.Intn(4))
	if l := kinds(); w.rnd.Intn(2) == 0 {
		m = l[w.rnd.Intn(len(l))]
	}
	switch w.rnd.Intn(20) {
	case 0:
		m.Reply = true
	case 1:
		m.Member = 65
	}
	m.From, m.Id = w.rnd.Intn(3), w.rnd.Int63n(9)
	return m
}

// anyReply is mostly one to something that was sent, once or more often.
func (w *twins) anyReply() msg.Msg {
	if len(w.sent) == 0 {
		return msg.Answer(w.anyRequest())
	}
	m := w.sent[len(w.sent)-1-w.rnd.Intn(min(8, len(w.sent)))]
	r := msg.Refuse(m, api.Errno(w.rnd.Intn(2)))
	switch w.rnd.Intn(12) {
	case 0:
		r.Kind = 1 + w.rnd.Intn(12)
	case 1:
		r.From = w.rnd.Intn(4)
	case 2:
		r.To = w.rnd.Intn(4)
	case 3:
		r.Id = w.anyId()
	case 4:
		r.Reply = false
	}
	return r
}

func (w *twins) anyId() int64 { return w.call.Next() - w.rnd.Int63n(8) }

// step makes one call of both, and returns what it was, and whether it leaves everything as it was.
func (w *twins) step() (string, bool) {
	switch w.rnd.Intn(8) {
	case 0, 1, 2:
		m, now := w.anyRequest(), w.now
		if w.rnd.Intn(20) == 0 {
			now = -1
		}
		got, err := w.call.Ask(m, now)
		q, e := w.model.ask(m, now)
		what := fmt.Sprintf("Ask(%+v, %d)", m, now)
		want(w.t, what, err, e)
		if !msg.Same(got, q) {
			w.t.Errorf("%s: %+v, not %+v", what, got, q)
		}
		if e == api.OK {
			w.sent = append(w.sent, q)
		}
		return what, e != api.OK
	case 3, 4:
		r := w.anyReply()
		got, ok := w.call.Got(r)
		if m, is := w.model.got(r); ok != is || !msg.Same(got, m) {
			w.t.Errorf("Got(%+v): %+v, %v, not %+v, %v", r, got, ok, m, is)
		}
		return fmt.Sprintf("Got(%+v)", r), !ok
	case 5:
		var l []int64
		for range w.rnd.Intn(3) {
			l = append(l, w.anyId())
		}
		got, k := w.call.Give(l...), w.model.give(l...)
		if got != k {
			w.t.Errorf("Give(%v): %d, not %d", l, got, k)
		}
		return fmt.Sprintf("Give(%v)", l), k == 0
	}
	w.now += w.rnd.Int63n(1 << w.rnd.Intn(4))
	got, l := w.call.Tick(w.now), w.model.tick(w.now)
	if fmt.Sprintf("%+v", got) != fmt.Sprintf("%+v", l) {
		w.t.Errorf("Tick(%d): %+v, not %+v", w.now, got, l)
	}
	return fmt.Sprintf("Tick(%d)", w.now), len(l) == 0
}

// P18.2 to P18.5 and P18.7: a caller beside its model, and copies of it that are looked at later, or go on in its stead.
func TestModel(t *testing.T) {
	for seed := range int64(60) {
		rnd := rand.New(rand.NewSource(seed))
		first := 1 + rnd.Int63n(4)
		config := call.Config{First: first, Last: first + rnd.Int63n(30), Open: 1 + rnd.Intn(6)}
		node, from := rnd.Intn(4), []int64{0, 7, api.MaxTime - 20}[rnd.Intn(3)]
		now := []int64{0, 50, api.MaxTime - 60}[rnd.Intn(3)]
		w := &twins{t: t, rnd: rnd, call: newCaller(t, node, from, config), model: &model{node: node, next: from, c: config}, now: now}
		kept, shape := w.call.Copy(), w.model.copy()
		for range 120 {
			before := seen(w.call)
			what, same := w.step()
			still(t, what, w.call, w.model.seen())
			if same {
				still(t, what+", which changes nothing", w.call, before)
			}
			switch rnd.Intn(10) {
			case 0:
				kept, shape = w.call.Copy(), w.model.copy()
			case 1:
				kept, w.call = w.call, kept
				shape, w.model = w.model, shape
			}
			still(t, "a copy beside "+what, kept, shape.seen())
			if t.Failed() {
				t.Fatal("seed", seed)
			}
		}
	}
}

// P18.5: a number is given once, and of its replies one is accepted, however often and in whatever order they come.
func TestOnce(t *testing.T) {
	for seed := range int64(20) {
		rnd := rand.New(rand.NewSource(seed))
		c := newCaller(t, 1, 5, call.Config{First: 1, Last: 9, Open: 50})
		var replies []msg.Msg
		given, accepted := map[int64]int{}, map[int64]int{}
		for now := range int64(50) {
			m := ask(t, c, beat(rnd.Intn(4)), now)
			given[m.Id]++
			for _, m := range append(c.Tick(now), m) {
				for range rnd.Intn(3) {
					replies = append(replies, msg.Answer(m))
				}
			}
			rnd.Shuffle(len(replies), func(i, j int) { replies[i], replies[j] = replies[j], replies[i] })
			for _, r := range replies[len(replies)/2:] {
				if m, ok := c.Got(r); ok {
					accepted[m.Id]++
				}
			}
			replies = replies[:len(replies)/2]
		}
		for id, k := range given {
			if k != 1 || accepted[id] > 1 {
				t.Errorf("seed %d: %d was asked %d times, and answered %d times", seed, id, k, accepted[id])
			}
		}
		if len(given) != 50 || len(accepted)+len(c.Open()) != 50 || len(accepted) < 25 {
			t.Errorf("seed %d: %d asked, %d answered, %d open", seed, len(given), len(accepted), len(c.Open()))
		}
	}
}
