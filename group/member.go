package group

import "slices"

// liveness is what is known of a member's calls.
type liveness struct {
	heard    int64 // when it called last
	rejoined bool  // in the rebalance that goes on
	told     bool  // the generation
}

func (l *liveness) hear(now int64) { l.heard = now }

func (l *liveness) silent(now, session int64) bool { return now-l.heard > session }

// call begins a rebalance, in which a member has to come back.
func (l *liveness) call() { l.rejoined = false }

// peer is a member.
type peer struct {
	liveness
	claims []int // of its last call in the rebalance that goes on
}

func (p *peer) rejoin(claims []int) {
	p.rejoined = true
	p.claims = slices.Clone(claims)
}

// settle ends a rebalance for a member that came back. Nobody asks for its claims again.
func (p *peer) settle() {
	p.told = false
	p.claims = nil
}

func (p *peer) copy() *peer {
	return &peer{liveness: p.liveness, claims: slices.Clone(p.claims)}
}
