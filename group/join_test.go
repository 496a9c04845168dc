package group_test

import (
	"math"
	"testing"

	"towpath/api"
	"towpath/group"
)

// P12.2: the first member of a group, and the first one again.
func TestJoinEmpty(t *testing.T) {
	g := made(t, usual)
	joins(t, g, 7, 99, 3, told(1), 2, 0)
	stands(t, "one member", g, group.Stable, 1, 7)
	deals(t, "one member", g, has(7, 0, 1, 2))
	want(t, "Leave", g.Leave(7, 3), api.OK)
	stands(t, "left", g, group.Empty, 1)
	deals(t, "left", g)
	joins(t, g, 8, 1, 4, told(2))
	stands(t, "another one", g, group.Stable, 2, 8)
	noParts(t, g, 8, 1, api.ErrGeneration)
	partsAre(t, g, 8, 2, 0, 1, 2)
}

// P12.2: a member that was told: with the generation of the group it is told again, with any other a rebalance starts.
func TestJoinStableTold(t *testing.T) {
	g := stable(t, usual, 0, 1, 2)
	for range 3 {
		joins(t, g, 1, 2, 1, told(2), 2)
		stands(t, "its own generation", g, group.Stable, 2, 1, 2)
	}
	for _, generation := range []int{1, 3, 0, -1, math.MinInt, math.MaxInt} {
		g := stable(t, usual, 0, 1, 2)
		joins(t, g, 1, generation, 1, busy)
		stands(t, "another generation", g, group.Calling, 2, 1, 2)
		deals(t, "another generation", g, has(1, 0, 2), has(2, 1))
		joins(t, g, 2, 2, 1, told(3))
		stands(t, "both", g, group.Stable, 3, 1, 2)
	}
	g = stable(t, usual, 0, 1)
	joins(t, g, 1, 0, 1, told(2)) // it has nobody to wait for
	stands(t, "alone", g, group.Stable, 2, 1)
	joins(t, g, 1, 3, 1, told(3))
	joins(t, g, 1, 3, 1, told(3))
}

// P12.2: a member that was not told yet is told once, whatever generation it comes with.
func TestJoinStableUntold(t *testing.T) {
	for _, generation := range []int{2, 1, 3, 0, -1, math.MinInt, math.MaxInt} {
		g := stable(t, usual, 0, 1)
		joins(t, g, 2, 0, 1, busy, 5)
		joins(t, g, 1, 1, 2, told(2), 0, 1, 2)
		joins(t, g, 2, generation, 3, told(2), 2)
		stands(t, "told", g, group.Stable, 2, 1, 2)
		deals(t, "claims of one that is told do not count", g, has(1, 0, 1), has(2, 2))
		if generation != 2 {
			joins(t, g, 2, generation, 4, busy)
			stands(t, "told already", g, group.Calling, 2, 1, 2)
		}
	}
	g := stable(t, usual, 0, 1)
	joins(t, g, 2, 0, 1, busy)
	joins(t, g, 1, 1, 2, told(2))
	joins(t, g, 1, 1, 2, busy) // it was told by the call that completed the rebalance
}

// P12.2: a new member in a stable group, which has not been there before and so is not told.
func TestJoinStableNew(t *testing.T) {
	for _, generation := range []int{0, 1, 2, 3} {
		g := stable(t, usual, 0, 1, 2)
		joins(t, g, 3, generation, 1, busy)
		stands(t, "a new one", g, group.Calling, 2, 1, 2, 3)
		deals(t, "a new one", g, has(1, 0, 2), has(2, 1))
		joins(t, g, 1, 2, 1, busy)
		joins(t, g, 2, 2, 1, told(3))
		stands(t, "all", g, group.Stable, 3, 1, 2, 3)
		joins(t, g, 1, 0, 1, told(3)) // nobody but the last one has been told
		joins(t, g, 3, 0, 1, told(3))
		joins(t, g, 3, 3, 1, told(3))
		joins(t, g, 2, 3, 1, told(3))
	}
	g := stable(t, usual, 0, 1, 2)
	want(t, "Leave", g.Leave(1, 0), api.OK)
	joins(t, g, 2, 2, 0, told(3))
	joins(t, g, 1, 3, 0, busy) // one that left is new again
	joins(t, g, 1, 3, 0, busy)
	joins(t, g, 2, 3, 0, told(4))
}

// P12.2: during a rebalance, once and again; the claims of the last call count.
func TestJoinCalling(t *testing.T) {
	g := calling(t, usual, 0, 1, 2, 3)
	joins(t, g, 1, 2, 1, busy, 0)
	joins(t, g, 1, 2, 1, busy, 1, 0)
	joins(t, g, 4, 0, 2, busy) // a new one is waited for no longer than the others
	joins(t, g, 2, 0, 3, busy)
	stands(t, "one is missing", g, group.Calling, 2, 1, 2, 3, 4)
	joins(t, g, 1, 7, 4, busy, 2)
	joins(t, g, 3, 2, 5, told(3), 1)
	stands(t, "all", g, group.Stable, 3, 1, 2, 3, 4)
	deals(t, "the last claims", g, has(1, 2), has(2, 0), has(3, 1), has(4))

	for _, c := range [][2][]int{{{0, 1}, nil}, {nil, {0, 1}}, {{2}, {0, 1}}} {
		g := stable(t, usual, 0, 1, 2)
		joins(t, g, 2, 0, 1, busy, c[0]...)
		joins(t, g, 2, 0, 1, busy, c[1]...)
		joins(t, g, 1, 2, 1, told(3))
		if len(c[1]) > 0 {
			deals(t, "the second time", g, has(1, 2), has(2, 0, 1))
		} else {
			deals(t, "the second time", g, has(1, 0, 2), has(2, 1))
		}
	}
}

// Claims of one rebalance are no claims in the next one, nor does a member's coming back last.
func TestRebalanceAnew(t *testing.T) {
	g := stable(t, usual, 0, 1, 2)
	joins(t, g, 1, 0, 1, busy, 1, 2)
	joins(t, g, 2, 2, 1, told(3), 0)
	deals(t, "claims", g, has(1, 1, 2), has(2, 0))
	joins(t, g, 1, 0, 1, told(3), 1, 2)
	joins(t, g, 2, 2, 1, busy)
	stands(t, "again", g, group.Calling, 3, 1, 2)
	joins(t, g, 2, 2, 1, busy)
	joins(t, g, 1, 3, 1, told(4))
	deals(t, "no claims", g, has(1, 0, 2), has(2, 1))

	g = calling(t, usual, 0, 1, 2, 3)
	joins(t, g, 2, 2, 0, busy)
	want(t, "Leave", g.Leave(3, 0), api.OK)
	stands(t, "completed", g, group.Stable, 3, 1, 2)
	want(t, "Leave", g.Leave(2, 0), api.OK)
	stands(t, "started anew", g, group.Calling, 3, 1)
	joins(t, g, 1, 3, 0, told(4))
}

// The generation 2^31 - 1 is the last one: no rebalance that starts in it is ever completed, whoever has rejoined, leaves or is silent.
func TestLastGeneration(t *testing.T) {
	ahead := encoded(lastGeneration-1, has(1, 0, 1), has(2, 2))
	g := loaded(t, "the last but one", ahead, usual, 0)
	joins(t, g, 1, 0, 0, busy)
	joins(t, g, 2, 0, 0, told(lastGeneration))
	joins(t, g, 1, 0, 0, told(lastGeneration))
	want(t, "Beat", g.Beat(1, lastGeneration, 0), api.OK)
	want(t, "May", g.May(2, lastGeneration, 1), api.OK)

	joins(t, g, 2, 0, 1, busy)
	joins(t, g, 1, 0, 1, exhausted)
	joins(t, g, 2, lastGeneration, 1, exhausted)
	stands(t, "all rejoined", g, group.Calling, lastGeneration, 1, 2)
	joins(t, g, 3, 0, 1, exhausted)
	stands(t, "a third one", g, group.Calling, lastGeneration, 1, 2, 3)
	want(t, "Beat", g.Beat(2, lastGeneration, 1), api.ErrBusy)
	partsAre(t, g, 2, lastGeneration, 1)
	noParts(t, g, 3, lastGeneration, api.ErrGeneration)
	want(t, "Leave", g.Leave(3, 1), api.OK)
	gone(t, g, 51)
	gone(t, g, 101)
	stands(t, "the rebalance is due", g, group.Calling, lastGeneration, 1, 2)
	want(t, "Beat", g.Beat(2, 5, 101), api.ErrGeneration)
	gone(t, g, 102, 1)
	stands(t, "one is silent", g, group.Calling, lastGeneration, 2)
	joins(t, g, 2, 0, 102, exhausted)
	want(t, "Leave", g.Leave(2, 102), api.OK)
	stands(t, "left", g, group.Empty, lastGeneration)
	deals(t, "left", g)

	joins(t, g, 5, lastGeneration, 103, exhausted, 0)
	stands(t, "the first one", g, group.Calling, lastGeneration, 5)
	noParts(t, g, 5, lastGeneration, api.ErrGeneration)
	joins(t, g, 5, 0, 103, exhausted)
	gone(t, g, 203)
	gone(t, g, 204, 5)
	stands(t, "silent", g, group.Empty, lastGeneration)
}

// In the last generation those who have not rejoined stay too, until they are silent.
func TestLastGenerationKeepsMembers(t *testing.T) {
	b := encoded(lastGeneration, has(1, 0), has(2, 1), has(3, 2))
	g := loaded(t, "the last one", b, usual, 0)
	joins(t, g, 1, 7, 0, busy)
	gone(t, g, 50)
	gone(t, g, 100)
	stands(t, "due", g, group.Calling, lastGeneration, 1, 2, 3)
	gone(t, g, 101, 1, 2, 3)
	stands(t, "silent", g, group.Empty, lastGeneration)

	g = loaded(t, "nobody rejoins", b, usual, 0)
	want(t, "Leave", g.Leave(1, 0), api.OK)
	gone(t, g, 60)
	stands(t, "nobody rejoins", g, group.Calling, lastGeneration, 2, 3)
	deals(t, "nobody rejoins", g, has(1, 0), has(2, 1), has(3, 2))
	joins(t, g, 2, 7, 60, busy)
	want(t, "Leave of the one that is waited for", g.Leave(3, 60), api.OK)
	stands(t, "all rejoined", g, group.Calling, lastGeneration, 2)
	joins(t, g, 2, 7, 60, exhausted)
}

// P12.3: the errors of Beat in each state, in their order, and that a member was heard of whatever the answer.
func TestBeat(t *testing.T) {
	for state, g := range someGroups(t) {
		generation := g.Generation()
		for _, member := range g.Members() {
			for _, other := range []int{generation - 1, generation + 1, 0, -1, math.MinInt, math.MaxInt} {
				want(t, state+", another generation", g.Beat(member, other, 10), api.ErrGeneration)
			}
			err := api.OK
			if g.State() == group.Calling {
				err = api.ErrBusy
			}
			want(t, state+", its generation", g.Beat(member, generation, 10), err)
		}
		stands(t, state, g, g.State(), generation, g.Members()...)
	}
	want(t, "nobody", made(t, usual).Beat(1, 0, 0), api.ErrMember)

	c := group.Config{Parts: 3, Session: 100, Rebalance: 1000}
	for answer, beat := range map[api.Errno]func() (*group.Group, api.Errno){
		api.OK: func() (*group.Group, api.Errno) {
			g := stable(t, c, 0, 1, 2)
			return g, g.Beat(1, 2, 50)
		},
		api.ErrGeneration: func() (*group.Group, api.Errno) {
			g := stable(t, c, 0, 1, 2)
			return g, g.Beat(1, 1, 50)
		},
		api.ErrBusy: func() (*group.Group, api.Errno) {
			g := calling(t, c, 0, 2, 1)
			return g, g.Beat(1, 2, 50)
		},
	} {
		g, err := beat()
		want(t, "Beat", err, answer)
		gone(t, g, 100)
		gone(t, g, 101, 2)
		gone(t, g, 150)
		gone(t, g, 151, 1)
	}
}

// P12.3: Leave in each state.
func TestLeave(t *testing.T) {
	g := stable(t, usual, 0, 1, 2, 3)
	want(t, "Leave", g.Leave(2, 1), api.OK)
	stands(t, "a rebalance starts", g, group.Calling, 2, 1, 3)
	deals(t, "a rebalance starts", g, has(1, 0), has(2, 1), has(3, 2))
	joins(t, g, 1, 2, 1, busy, 0)
	joins(t, g, 3, 2, 1, told(3), 2)
	deals(t, "completed", g, has(1, 0, 1), has(3, 2))

	g = calling(t, usual, 0, 1, 2, 3)
	want(t, "Leave of one that has rejoined", g.Leave(1, 0), api.OK)
	stands(t, "nobody has rejoined", g, group.Calling, 2, 2, 3)

	g = calling(t, usual, 0, 1, 2, 3)
	want(t, "Leave of one that is waited for", g.Leave(2, 0), api.OK)
	stands(t, "another one is waited for", g, group.Calling, 2, 1, 3)
	want(t, "Leave of the last one that is waited for", g.Leave(3, 0), api.OK)
	stands(t, "completed", g, group.Stable, 3, 1)
	deals(t, "completed", g, has(1, 0, 1, 2))
	joins(t, g, 1, 0, 0, told(3)) // it has not been told
	want(t, "Leave of the last one", g.Leave(1, 0), api.OK)
	stands(t, "left", g, group.Empty, 3)
	deals(t, "left", g)

	g = calling(t, usual, 0, 1, 2)
	want(t, "Leave", g.Leave(2, 0), api.OK)
	stands(t, "one that waited alone", g, group.Stable, 3, 1)
	g = calling(t, usual, 0, 1, 2)
	want(t, "Leave", g.Leave(1, 0), api.OK)
	want(t, "Leave of the last one during a rebalance", g.Leave(2, 0), api.OK)
	stands(t, "left", g, group.Empty, 2)
	deals(t, "left", g)
	gone(t, g, api.MaxTime)
	joins(t, g, 2, 2, 0, told(3))
}

// Claims count when a rebalance is completed by Leave, or by Tick.
func TestClaimsWhoeverCompletes(t *testing.T) {
	for what, complete := range map[string]func(*group.Group){
		"Leave": func(g *group.Group) { want(t, "Leave", g.Leave(3, 0), api.OK) },
		"Tick":  func(g *group.Group) { gone(t, g, 50, 3) },
	} {
		g := stable(t, usual, 0, 1, 2, 3)
		joins(t, g, 1, 0, 0, busy, 2, 1)
		joins(t, g, 2, 2, 0, busy, 0)
		complete(g)
		stands(t, what, g, group.Stable, 3, 1, 2)
		deals(t, what, g, has(1, 1, 2), has(2, 0))
		joins(t, g, 1, 0, 50, told(3))
		joins(t, g, 2, 0, 50, told(3))
	}
}
