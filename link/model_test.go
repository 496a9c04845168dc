package link_test

import (
	"fmt"
	"math/rand"
	"testing"

	"towpath/api"
	"towpath/link"
	"towpath/msg"
)

// twins are a net and its model.
type twins struct {
	t     *testing.T
	rnd   *rand.Rand
	net   *link.Net
	model *model
}

// some is a number of a packet, mostly of one that is there.
func (w *twins) some() int { return w.rnd.Intn(w.net.Len()+3) - 1 }

func (w *twins) anyWay() link.Way { return way(w.rnd.Intn(3), w.rnd.Intn(3)) }

func (w *twins) anyMsgs() []msg.Msg {
	var l []msg.Msg
	for range w.rnd.Intn(4) {
		m := beat(w.rnd.Intn(3), w.rnd.Intn(3), w.rnd.Int63n(5))
		if w.rnd.Intn(20) == 0 {
			m.Member = 65
		}
		l = append(l, m)
	}
	return l
}

// step makes one call of both, and returns what it was, and whether it was an error that leaves everything as it was.
func (w *twins) step() (string, bool) {
	same := func(what string, got, err api.Errno) (string, bool) {
		want(w.t, what, got, err)
		return what, got != api.OK
	}
	i, way := w.some(), w.anyWay()
	switch w.rnd.Intn(12) {
	case 0, 1, 2:
		l := w.anyMsgs()
		return same(fmt.Sprint("Send ", l), w.net.Send(l...), w.model.send(l...))
	case 3, 4:
		got, err := w.net.Take(i)
		m, e := w.model.take(i)
		if !msg.Same(got, m) {
			w.t.Errorf("Take(%d): %v, not %v", i, got, m)
		}
		what, _ := same(fmt.Sprint("Take ", i), err, e)
		return what, err == api.ErrNone
	case 5:
		return same(fmt.Sprint("Drop ", i), w.net.Drop(i), w.model.drop(i))
	case 6:
		return same(fmt.Sprint("Twice ", i), w.net.Twice(i), w.model.twice(i))
	case 7:
		return same(fmt.Sprint("Later ", i), w.net.Later(i), w.model.later(i))
	case 8:
		at, bits := int(w.rnd.Uint64()), uint32(1)<<w.rnd.Intn(32)
		return same(fmt.Sprint("Spoil ", i, at, bits), w.net.Spoil(i, at, bits), w.model.spoil(i, at, bits))
	case 9:
		w.net.Cut(way)
		w.model.cut(way)
		return fmt.Sprint("Cut ", way), false
	case 10:
		w.net.Join(way)
		w.model.join(way)
		return fmt.Sprint("Join ", way), false
	}
	if w.rnd.Intn(4) > 0 {
		return "none", false
	}
	node := w.rnd.Intn(4)
	if got, k := w.net.Lose(node), w.model.lose(node); got != k {
		w.t.Errorf("Lose(%d): %d, not %d", node, got, k)
	}
	return fmt.Sprint("Lose ", node), false
}

// P17.2 to P17.5, P17.8 and P17.9: a net beside its model, and copies of it that are looked at later, or go on in its stead.
func TestModel(t *testing.T) {
	for seed := range int64(60) {
		rnd := rand.New(rand.NewSource(seed))
		bound := 1 + rnd.Intn(4)
		w := &twins{t, rnd, newNet(t, bound), &model{bound: bound}}
		kept, shape := w.net.Copy(), w.model.copy()
		for range 200 {
			before := seen(w.net)
			what, failed := w.step()
			still(t, what, w.net, w.model.seen())
			if failed {
				still(t, what+", which failed", w.net, before)
			}
			for _, l := range ways() {
				if w.net.On(l) > bound {
					t.Errorf("%s: %d packets on %v", what, w.net.On(l), l)
				}
			}
			switch rnd.Intn(10) {
			case 0:
				kept, shape = w.net.Copy(), w.model.copy()
			case 1:
				kept, w.net = w.net, kept
				shape, w.model = w.model, shape
			}
			still(t, "a copy beside "+what, kept, shape.seen())
			if t.Failed() {
				t.Fatal("seed", seed)
			}
		}
	}
}

// P17.6: what Take returns was sent on that way, and comes as often as it was sent and doubled, at most. Each packet is spoilt at most once.
func TestIntegrity(t *testing.T) {
	for seed := range int64(40) {
		rnd := rand.New(rand.NewSource(seed))
		n := newNet(t, 5)
		left := map[string]int{} // how often a message may still come
		var id int64
		for range 400 {
			i := rnd.Intn(n.Len() + 1)
			switch rnd.Intn(8) {
			case 0, 1, 2:
				id++
				if m := beat(rnd.Intn(3), rnd.Intn(3), id); n.Send(m) == api.OK {
					left[head(m)]++
				}
			case 3:
				c := n.Copy()
				if n.Twice(i) == api.OK {
					if m, err := c.Take(i); err == api.OK {
						left[head(m)]++
					}
				}
			case 4:
				n.Later(i)
			case 5: // a packet that was spoilt already is left alone
				c := n.Copy()
				if _, err := c.Take(i); err == api.OK {
					n.Spoil(i, rnd.Int(), 1+rnd.Uint32()>>1)
				}
			default:
				w, _ := n.Way(i)
				m, err := n.Take(i)
				if err != api.OK {
					break
				}
				left[head(m)]--
				if left[head(m)] < 0 || w != way(m.From, m.To) || !msg.Same(m, beat(m.From, m.To, m.Id)) {
					t.Errorf("seed %d: Take: %v on %v, though %d are left", seed, m, w, left[head(m)])
				}
			}
		}
	}
}
