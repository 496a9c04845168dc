package group

import (
	"slices"

	"towpath/api"
	"towpath/assign"
)

// enter holds what a member's call was given against what may be, and lets time go on. What is refused here changes nothing, time neither; what gets another error has passed its time. A time that has passed counts as the latest one: g.now is the time of the call.
func (g *Group) enter(member int, now int64) api.Errno {
	switch {
	case g == nil:
		return api.ErrNil
	case !isTime(now) || !isMember(member):
		return api.ErrArg
	}
	g.now = max(g.now, now)
	return api.OK
}

// Join lets a member come in, come back, or learn the generation.
func (g *Group) Join(member int, generation int, now int64, claims ...int) (int, api.Errno) {
	if err := g.enter(member, now); err != api.OK {
		return 0, err
	}
	p, known := g.hear(member)
	if known && g.state == Stable && (!p.told || generation == g.generation) {
		return g.tell(p), api.OK
	}
	if g.state != Calling {
		g.call()
	}
	p.rejoin(claims)
	if !g.allRejoined() {
		return 0, api.ErrBusy
	}
	if g.exhausted() {
		return 0, api.ErrExhausted
	}
	g.complete()
	return g.tell(p), api.OK
}

// Beat takes note that a member is there.
func (g *Group) Beat(member int, generation int, now int64) api.Errno {
	if err := g.enter(member, now); err != api.OK {
		return err
	}
	p := g.members[member]
	if p == nil {
		return api.ErrMember
	}
	p.hear(g.now)
	switch {
	case generation != g.generation:
		return api.ErrGeneration
	case g.state != Stable:
		return api.ErrBusy
	}
	return api.OK
}

// Leave lets a member go.
func (g *Group) Leave(member int, now int64) api.Errno {
	if err := g.enter(member, now); err != api.OK {
		return err
	}
	if g.members[member] == nil {
		return api.ErrMember
	}
	g.remove(member)
	return api.OK
}

// Tick removes members that are silent, and ends a rebalance that takes too long. It returns who is no longer there.
func (g *Group) Tick(now int64) []int {
	if g == nil || !isTime(now) {
		return nil
	}
	g.now = max(g.now, now)
	var gone []int
	for _, member := range g.Members() {
		if g.members[member].silent(g.now, g.config.Session) {
			g.remove(member)
			gone = append(gone, member)
		}
	}
	if g.state == Calling && g.now-g.began >= g.config.Rebalance {
		gone = append(gone, g.complete()...)
	}
	slices.Sort(gone)
	return gone
}

// hear takes note that a member was heard of, and reports whether it was in the group before.
func (g *Group) hear(member int) (*peer, bool) {
	p, known := g.members[member]
	if !known {
		p = &peer{}
		if g.members == nil { // of a group that New did not make
			g.members = map[int]*peer{}
		}
		g.members[member] = p
	}
	p.hear(g.now)
	return p, known
}

func (g *Group) tell(p *peer) int {
	p.told = true
	return g.generation
}

// call starts a rebalance.
func (g *Group) call() {
	g.state, g.began = Calling, g.now
	for _, p := range g.members {
		p.call()
	}
}

func (g *Group) allRejoined() bool {
	for _, p := range g.members {
		if !p.rejoined {
			return false
		}
	}
	return true
}

// remove lets a member go, whom the others may have been waiting for.
func (g *Group) remove(member int) {
	delete(g.members, member)
	switch {
	case len(g.members) == 0:
		g.disband()
	case g.state == Stable:
		g.call()
	case g.allRejoined():
		g.complete()
	}
}

func (g *Group) disband() {
	g.state, g.dealing = Empty, nil
}

func (g *Group) exhausted() bool { return g.generation == lastGeneration }

// complete ends a rebalance without those who did not come back, and returns them. No generation follows the last one: there it does nothing.
func (g *Group) complete() []int {
	if g.exhausted() {
		return nil
	}
	gone := g.removeMissing()
	if len(g.members) == 0 {
		g.disband()
		return gone
	}
	g.generation++
	g.dealing, _ = assign.Sticky(g.config.Parts, g.claims()...) // the config and the members are such that it has no error
	g.state = Stable
	for _, p := range g.members {
		p.settle()
	}
	return gone
}

func (g *Group) removeMissing() []int {
	var gone []int
	for _, member := range g.Members() {
		if !g.members[member].rejoined {
			delete(g.members, member)
			gone = append(gone, member)
		}
	}
	return gone
}

// claims returns what each member claims, in increasing order.
func (g *Group) claims() []assign.Held {
	var l []assign.Held
	for _, member := range g.Members() {
		l = append(l, assign.Held{Member: member, Parts: g.members[member].claims})
	}
	return l
}
