package topo

import (
	"towpath/api"
	"towpath/expr"
)

// Limits of tables.
const (
	mostStores = 8
	mostTopics = 4
	mostSteps  = 4096
	mostNodes  = 24
	mostPuncts = 4
	mostArms   = 4
	mostRows   = 32
	mostString = 64 // bytes of each string of a row
)

// Check returns ErrTable if a table is not valid, and where: -1 for the table itself, or else a node, or a punct behind the nodes.
func Check(t Table) (int, api.Errno) {
	if !t.sized() {
		return -1, api.ErrTable
	}
	for i, n := range t.Nodes {
		if !t.placed(i) || !t.fits(n) {
			return i, api.ErrTable
		}
	}
	for i, p := range t.Puncts {
		if !t.has(p) {
			return len(t.Nodes) + i, api.ErrTable
		}
	}
	return 0, api.OK
}

// within reports whether a number is from one to another.
func within[N int | int64](n, least, most N) bool { return least <= n && n <= most }

func (t Table) sized() bool {
	return within(t.Stores, 0, mostStores) && within(t.Topics, 0, mostTopics) && within(t.Steps, 1, mostSteps) &&
		within(len(t.Nodes), 1, mostNodes) && len(t.Puncts) <= mostPuncts
}

// placed reports whether a node has its place below an earlier one. The first one has none, and is the only Source.
func (t Table) placed(i int) bool {
	n := t.Nodes[i]
	if i == 0 || n.Kind == Source {
		return i == 0 && n.Kind == Source && n.In == -1 && n.Arm == 0
	}
	if !within(n.In, 0, i-1) {
		return false
	}
	switch above := t.Nodes[n.In]; above.Kind {
	case Sink:
		return false
	case Branch:
		return within(n.Arm, 0, len(above.Arms)) // one more, for what no arm is for
	}
	return n.Arm == 0
}

// fits reports whether a node has what its kind asks for, and nothing else.
func (t Table) fits(n Node) bool {
	ok := true
	rest := n
	rest.Kind, rest.In, rest.Arm = 0, 0, 0
	switch n.Kind {
	case Source:
	case Filter:
		ok = sound(n.A)
		rest.A = nil
	case Map:
		ok = len(n.A)+len(n.B) > 0 && soundIfAny(n.A) && soundIfAny(n.B)
		rest.A, rest.B = nil, nil
	case Branch:
		ok = within(len(n.Arms), 1, mostArms) && sound(n.Arms...)
		rest.Arms = nil
	case Fold:
		ok = t.store(n.Store) && sound(n.A)
		rest.Store, rest.A = 0, nil
	case Look:
		ok = t.store(n.Store) && soundIfAny(n.A) && sound(n.B)
		rest.Store, rest.A, rest.B = 0, nil, nil
	case Flow:
		ok = t.store(n.Store) && sound(n.A) && soundRows(n.Rows)
		rest.Store, rest.A, rest.Rows = 0, nil, nil
	case Window:
		ok = t.store(n.Store) && within(n.Size, 1, api.MaxTime) && within(n.Grace, 0, api.MaxTime) && sound(n.A)
		rest.Store, rest.Size, rest.Grace, rest.A = 0, 0, 0, nil
	case Keep:
		ok = t.store(n.Store)
		rest.Store = 0
	case Sink:
		ok = t.topic(n.Topic)
		rest.Topic, rest.Spread = 0, false
	default:
		return false
	}
	return ok && sameNode(rest, Node{})
}

// has reports whether a table can have a punct.
func (t Table) has(p Punct) bool {
	return within(p.Every, 1, api.MaxTime) && t.store(p.Store) && t.topic(p.Topic) && sound(p.A)
}

func (t Table) store(n int) bool { return within(n, 0, t.Stores-1) }

func (t Table) topic(n int) bool { return within(n, 0, t.Topics-1) }

func sound(programs ...[]expr.Op) bool {
	for _, p := range programs {
		if expr.Check(p...) != api.OK {
			return false
		}
	}
	return true
}

// soundIfAny is for a program that may be absent.
func soundIfAny(p []expr.Op) bool { return len(p) == 0 || sound(p) }

func soundRows(l []Row) bool {
	if !within(len(l), 1, mostRows) {
		return false
	}
	for i, r := range l {
		if len(r.From) > mostString || len(r.On) > mostString || len(r.To) > mostString || len(r.Out) > mostString {
			return false
		}
		for _, earlier := range l[:i] {
			if earlier.From == r.From && earlier.On == r.On {
				return false
			}
		}
	}
	return true
}
