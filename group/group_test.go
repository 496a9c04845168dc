package group_test

import (
	"math"
	"testing"

	"towpath/api"
	"towpath/assign"
	"towpath/group"
)

// The chapter's example.
func TestExample(t *testing.T) {
	g := made(t, usual)
	joins(t, g, 1, 0, 0, told(1))
	partsAre(t, g, 1, 1, 0, 1, 2)
	joins(t, g, 2, 0, 5, busy)
	want(t, "Beat", g.Beat(1, 1, 6), api.ErrBusy)
	joins(t, g, 1, 1, 7, told(2), 0, 1, 2)
	joins(t, g, 2, 0, 8, told(2))
	want(t, "May(1, 1, 0)", g.May(1, 1, 0), api.ErrGeneration)
	want(t, "May(1, 2, 0)", g.May(1, 2, 0), api.OK)
	want(t, "May(2, 2, 0)", g.May(2, 2, 0), api.ErrArg)
	partsAre(t, g, 2, 2, 2)
	deals(t, "Dealing", g, has(1, 0, 1), has(2, 2))
}

// P12.1: each number of a config at its limits and beyond.
func TestNew(t *testing.T) {
	for _, c := range []struct {
		group.Config
		ok bool
	}{
		{group.Config{Parts: 0, Session: 1, Rebalance: 1}, true},
		{group.Config{Parts: 256, Session: 1, Rebalance: 1}, true},
		{group.Config{Parts: 3, Session: api.MaxTime, Rebalance: 1}, true},
		{group.Config{Parts: 3, Session: 1, Rebalance: api.MaxTime}, true},
		{group.Config{Parts: -1, Session: 1, Rebalance: 1}, false},
		{group.Config{Parts: 257, Session: 1, Rebalance: 1}, false},
		{group.Config{Parts: math.MinInt, Session: 1, Rebalance: 1}, false},
		{group.Config{Parts: math.MaxInt, Session: 1, Rebalance: 1}, false},
		{group.Config{Parts: 3, Session: 0, Rebalance: 1}, false},
		{group.Config{Parts: 3, Session: -1, Rebalance: 1}, false},
		{group.Config{Parts: 3, Session: math.MinInt64, Rebalance: 1}, false},
		{group.Config{Parts: 3, Session: api.MaxTime + 1, Rebalance: 1}, false},
		{group.Config{Parts: 3, Session: math.MaxInt64, Rebalance: 1}, false},
		{group.Config{Parts: 3, Session: 1, Rebalance: 0}, false},
		{group.Config{Parts: 3, Session: 1, Rebalance: -1}, false},
		{group.Config{Parts: 3, Session: 1, Rebalance: api.MaxTime + 1}, false},
		{group.Config{Parts: 3, Session: 1, Rebalance: math.MaxInt64}, false},
		{group.Config{}, false},
	} {
		g, err := group.New(c.Config)
		if !c.ok {
			if g != nil || err != api.ErrArg {
				t.Errorf("New(%v): %v, %d", c.Config, g, err)
			}
			x, err := group.Load(encoded(0), c.Config, 0)
			if x != nil || err != api.ErrArg {
				t.Errorf("Load for %v: %v, %d", c.Config, x, err)
			}
			continue
		}
		want(t, "New", err, api.OK)
		stands(t, "New", g, group.Empty, 0)
		deals(t, "New", g)
		joins(t, g, 1, 0, 0, told(1)) // the latest time is 0
		gone(t, g, c.Session)
		if c.Session < api.MaxTime {
			gone(t, g, c.Session+1, 1)
		}
		loaded(t, "Load", encoded(0), c.Config, 0)
	}
}

// someGroups are groups of members 1 to 3 in each state; no time above 10 was passed.
func someGroups(t *testing.T) map[string]*group.Group {
	t.Helper()
	left := stable(t, usual, 10, 1, 2, 3)
	for _, m := range []int{1, 2, 3} {
		want(t, "Leave", left.Leave(m, 10), api.OK)
	}
	late := loaded(t, "late", encoded(lastGeneration, has(1, 0), has(2, 1), has(3, 2)), usual, 10)
	untold := calling(t, usual, 10, 1, 2, 3)
	joins(t, untold, 2, 2, 10, busy)
	joins(t, untold, 3, 2, 10, told(3))
	return map[string]*group.Group{
		"new":                 made(t, usual),
		"left":                left,
		"stable":              stable(t, usual, 10, 1, 2, 3),
		"two untold":          untold,
		"calling":             calling(t, usual, 10, 1, 2, 3),
		"the last generation": late,
	}
}

// Each call that has a time, or a member.
var (
	timed = map[string]func(g *group.Group, member int, now int64) api.Errno{
		"Join": func(g *group.Group, member int, now int64) api.Errno {
			n, err := g.Join(member, g.Generation(), now, 0, 1)
			if n != 0 && err != api.OK {
				return -1
			}
			return err
		},
		"Beat":  func(g *group.Group, member int, now int64) api.Errno { return g.Beat(member, g.Generation(), now) },
		"Leave": func(g *group.Group, member int, now int64) api.Errno { return g.Leave(member, now) },
	}
	asked = map[string]func(g *group.Group, member int) api.Errno{
		"Parts": func(g *group.Group, member int) api.Errno {
			l, err := g.Parts(member, g.Generation())
			if len(l) > 0 && err != api.OK {
				return -1
			}
			return err
		},
		"May": func(g *group.Group, member int) api.Errno { return g.May(member, g.Generation(), 0) },
	}
	badTimes   = []int64{-1, api.MaxTime + 1, math.MinInt64, math.MaxInt64}
	badMembers = []int{0, 65, -1, math.MinInt, math.MaxInt, 1<<32 + 1}
)

// A time that is none, or a number that no member has: ahead of every other error, and nothing changes.
func TestWrongArguments(t *testing.T) {
	for state, g := range someGroups(t) {
		as := g.Copy()
		for what, call := range timed {
			for _, now := range badTimes {
				for _, member := range append(badMembers, 1, 3, 5, 64) {
					want(t, what+", a time that is none", call(g, member, now), api.ErrArg)
				}
			}
			for _, member := range badMembers {
				for _, now := range []int64{0, 5, 10, 111, api.MaxTime} {
					want(t, what+", a member that can't be", call(g, member, now), api.ErrArg)
				}
			}
		}
		for what, call := range asked {
			for _, member := range badMembers {
				want(t, what+", a member that can't be", call(g, member), api.ErrArg)
			}
		}
		for _, now := range badTimes {
			gone(t, g, now)
		}
		unchanged(t, state, g, as, 0, 10, 60, 110, 111)
	}
}

// Times and members at their limits are as good as others.
func TestLimits(t *testing.T) {
	for _, member := range []int{1, 64} {
		for _, now := range []int64{0, api.MaxTime} {
			g := made(t, usual)
			joins(t, g, member, 0, now, told(1))
			want(t, "Beat", g.Beat(member, 1, now), api.OK)
			partsAre(t, g, member, 1, 0, 1, 2)
			want(t, "May", g.May(member, 1, 2), api.OK)
			gone(t, g, now)
			want(t, "Leave", g.Leave(member, now), api.OK)
			stands(t, "left", g, group.Empty, 1)
			loaded(t, "Load", encoded(5, has(member, 0, 1, 2)), usual, now)
		}
	}
	g := made(t, group.Config{Parts: 256, Session: api.MaxTime, Rebalance: api.MaxTime})
	for m := 64; m >= 1; m-- {
		joins(t, g, m, 0, 0, map[bool]answer{true: told(1), false: busy}[m == 64])
	}
	for m := 1; m <= 63; m++ {
		joins(t, g, m, 0, 0, busy)
	}
	joins(t, g, 64, 1, 0, told(2))
	l, _ := assign.Sticky(256, g.Dealing()...)
	deals(t, "64 members of 256 partitions", g, l...)
	want(t, "Check", assign.Check(256, g.Dealing()...), api.OK)
	want(t, "64 members", api.Errno(len(g.Members())), 64)
	gone(t, g, api.MaxTime)
	if b := g.Bytes(); string(loaded(t, "64 members", b, group.Config{Parts: 256, Session: 1, Rebalance: 1}, 0).Bytes()) != string(b) {
		t.Error("64 members")
	}
}

// Members that are not there: in each state, whoever was there.
func TestNoMember(t *testing.T) {
	for state, g := range someGroups(t) {
		as := g.Copy()
		for _, member := range []int{4, 64} {
			want(t, "Beat", g.Beat(member, g.Generation(), 10), api.ErrMember)
			want(t, "Beat", g.Beat(member, 99, 10), api.ErrMember)
			want(t, "Leave", g.Leave(member, 10), api.ErrMember)
			for _, generation := range []int{-1, 0, g.Generation(), 99} {
				noParts(t, g, member, generation, api.ErrMember)
			}
		}
		unchanged(t, state, g, as, 10, 60, 110, 111)
	}
	g := stable(t, usual, 10, 1, 2, 3)
	want(t, "Leave", g.Leave(2, 10), api.OK)
	want(t, "Leave again", g.Leave(2, 10), api.ErrMember)
	want(t, "Beat of one that left", g.Beat(2, 2, 10), api.ErrMember)
	noParts(t, g, 2, 2, api.ErrMember)
	noParts(t, made(t, usual), 1, 0, api.ErrMember)
}

// P12.5: what each member has in a generation, ahead of it, behind it, and during the rebalance that ends it.
func TestParts(t *testing.T) {
	for state, g := range someGroups(t) {
		generation := g.Generation()
		if len(g.Members()) == 0 {
			continue
		}
		for i, member := range []int{1, 2, 3} {
			partsAre(t, g, member, generation, i)
			for _, part := range []int{-1, 0, 1, 2, 3, math.MinInt, math.MaxInt} {
				err := api.ErrArg
				if part == i {
					err = api.OK
				}
				want(t, state+", May", g.May(member, generation, part), err)
			}
			for _, other := range []int{generation - 1, generation + 1, 0, -1, math.MinInt, math.MaxInt} {
				noParts(t, g, member, other, api.ErrGeneration)
			}
		}
	}
	g := stable(t, usual, 0, 1, 2)
	joins(t, g, 3, 0, 1, busy)
	partsAre(t, g, 1, 2, 0, 2)
	noParts(t, g, 3, 2, api.ErrGeneration) // it is in the group, but not in its assignment
	joins(t, g, 1, 2, 2, busy, 0, 2)
	partsAre(t, g, 1, 2, 0, 2)
	want(t, "Leave", g.Leave(2, 3), api.OK)
	deals(t, "the rebalance is completed", g, has(1, 0, 2), has(3, 1))
	partsAre(t, g, 1, 3, 0, 2)
	partsAre(t, g, 3, 3, 1)
	noParts(t, g, 3, 2, api.ErrGeneration)
	noParts(t, g, 2, 3, api.ErrMember)

	g = stable(t, group.Config{Parts: 1, Session: 9, Rebalance: 9}, 0, 1, 2)
	partsAre(t, g, 2, 2)
	want(t, "May of one that has nothing", g.May(2, 2, 0), api.ErrArg)
	g = calling(t, usual, 0, 1, 2, 3)
	want(t, "Leave", g.Leave(2, 0), api.OK)
	joins(t, g, 2, 0, 0, busy) // it comes back, and the assignment is still there
	partsAre(t, g, 2, 2, 1)
}

// P12.6: a copy and what it was copied from go on apart; results are memory of their own.
func TestCopies(t *testing.T) {
	for state, g := range someGroups(t) {
		as := g.Copy()
		unchanged(t, state+", copied", as, g, 10, 60, 110, 111)
		c := g.Copy()
		for _, now := range []int64{0, 50, 61, 150} {
			for _, member := range []int{1, 2, 3, 4, 5} {
				c.Join(member, 0, now, 2, 1, 0)
				c.Beat(member, c.Generation(), now)
			}
			c.Leave(3, now)
			c.Tick(now)
		}
		c.Tick(api.MaxTime)
		unchanged(t, state+", its copy went on", g, as, 10, 60, 110, 111)

		b, l, members := g.Bytes(), g.Dealing(), g.Members()
		parts, _ := g.Parts(1, g.Generation())
		clear(b)
		spoil(parts)
		spoil(members)
		for i := range l {
			spoil(l[i].Parts)
			l[i].Member = 60
		}
		unchanged(t, state+", results that were written to", g, as, 10, 60, 110, 111)
	}
	g := stable(t, usual, 0, 1)
	kept, members, l := g.Dealing(), g.Members(), g.Tick(5)
	parts, _ := g.Parts(1, 1)
	joins(t, g, 2, 0, 1, busy)
	joins(t, g, 1, 1, 1, told(2))
	if !assign.Same(kept, []assign.Held{has(1, 0, 1, 2)}) || len(members) != 1 || len(l) != 0 || len(parts) != 3 || parts[1] != 1 {
		t.Error("results from before", kept, members, l, parts)
	}
}

// spoil writes into a list, and behind it.
func spoil(l []int) {
	l = l[:cap(l)]
	for i := range l {
		l[i] = 9
	}
}

// Rule 5: claims that are written to behind the call count as they were, and stay as they are.
func TestClaimsAreNotKept(t *testing.T) {
	g := stable(t, usual, 0, 1, 2)
	mine, others := []int{2, 1, 0, 9, 1}, []int{1, 0}
	joins(t, g, 2, 1, 1, busy, mine...)
	c := g.Copy()
	if mine[0] != 2 || mine[1] != 1 || mine[3] != 9 {
		t.Error("claims are changed", mine)
	}
	for i := range mine {
		mine[i] = 0
	}
	joins(t, g, 1, 2, 2, told(3), others...)
	if others[0] != 1 || others[1] != 0 {
		t.Error("claims are changed", others)
	}
	clear(others)
	deals(t, "claims of the call", g, has(1, 0, 1), has(2, 2))
	joins(t, c, 1, 2, 2, told(3))
	deals(t, "the copy's claims", c, has(1, 2), has(2, 0, 1))
}

// A nil group, and the zero one, which is no more than safe.
func TestNil(t *testing.T) {
	var g *group.Group
	for what, call := range timed {
		for _, member := range []int{1, 64, 0, 65, -1} {
			for _, now := range []int64{0, api.MaxTime, -1, api.MaxTime + 1} {
				want(t, what, call(g, member, now), api.ErrNil)
			}
		}
	}
	for what, call := range asked {
		for _, member := range []int{1, 64, 0, 65, -1} {
			want(t, what, call(g, member), api.ErrNil)
		}
	}
	joins(t, g, 1, 0, 0, answer{0, api.ErrNil}, 1, 2)
	noParts(t, g, 1, 1, api.ErrNil)
	gone(t, g, 0)
	gone(t, g, -1)
	stands(t, "nil", g, group.Empty, 0)
	deals(t, "nil", g)
	if g.Bytes() != nil || g.Copy() != nil {
		t.Error("Bytes, Copy", g.Bytes(), g.Copy())
	}
	for range 3 {
		var zero group.Group
		zero.Beat(1, 0, 0)
		zero.Leave(1, 0)
		zero.Tick(5)
		zero.Join(1, 0, 6, 0)
		zero.Copy().Join(2, 0, 7)
		zero.Join(2, 0, 8)
		zero.May(1, 1, 0)
		zero.Tick(9)
		seen(&zero)
	}
}

// The numbers of the states are those of the chapter's order.
func TestStates(t *testing.T) {
	if group.Empty != 0 || group.Calling != 1 || group.Stable != 2 {
		t.Error(group.Empty, group.Calling, group.Stable)
	}
}
