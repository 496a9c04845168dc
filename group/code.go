package group

import (
	"towpath/api"
	"towpath/assign"
	"towpath/frame"
	"towpath/wire"
)

// Bytes returns a frame from which Load makes a group of the same generation.
func (g *Group) Bytes() []byte {
	if g == nil {
		return nil
	}
	b := numbers(g.generation, len(g.dealing))
	for _, h := range g.dealing {
		b = append(b, numbers(h.Member, len(h.Parts))...)
		b = append(b, numbers(h.Parts...)...)
	}
	return frame.Seal(b)
}

// numbers encodes numbers, none of which is below 0.
func numbers(l ...int) []byte {
	var b []byte
	for _, n := range l {
		b = append(b, wire.Uint(uint64(n))...)
	}
	return b
}

// Load returns the group whose Bytes are b, with all members of its generation there at a time.
func Load(b []byte, c Config, now int64) (*Group, api.Errno) {
	g, err := New(c)
	if err != api.OK || !isTime(now) {
		return nil, api.ErrArg
	}
	body, ok := frame.Open(b)
	if !ok || !g.load(wire.NewReader(body)) {
		return nil, api.ErrForm
	}
	g.now = now
	for _, h := range g.dealing {
		g.state = Stable
		g.members[h.Member] = &peer{liveness: liveness{heard: now, told: true}}
	}
	return g, api.OK
}

// load fills a new group's generation, and reports whether there may be such a one.
func (g *Group) load(r *wire.Reader) bool {
	generation := r.Uint()
	for range number(r, lastMember) {
		h := assign.Held{Member: number(r, lastMember)}
		for range number(r, mostParts) {
			h.Parts = append(h.Parts, number(r, mostParts))
		}
		g.dealing = append(g.dealing, h)
	}
	if r.End() != api.OK || generation > lastGeneration {
		return false
	}
	g.generation = int(generation)
	if len(g.dealing) == 0 {
		return true
	}
	return generation > 0 && assign.Check(g.config.Parts, g.dealing...) == api.OK
}

// number reads a number of at most most. One that is greater comes out as most + 1, which Check refuses all the same: so what is too great needs no care of its own.
func number(r *wire.Reader, most uint64) int {
	return int(min(r.Uint(), most+1))
}
