package group_test

import (
	"testing"

	"towpath/api"
	"towpath/group"
)

// P12.4: Session ticks are not too many, one more is.
func TestTickSilent(t *testing.T) {
	long := group.Config{Parts: 3, Session: 100, Rebalance: 1000}
	g := stable(t, long, 10, 1)
	gone(t, g, 110)
	stands(t, "Session ticks", g, group.Stable, 1, 1)
	gone(t, g, 111, 1)
	stands(t, "one more", g, group.Empty, 1)
	deals(t, "one more", g)
	gone(t, g, 112)

	g = stable(t, long, 10, 1, 2, 3, 4)
	want(t, "Beat", g.Beat(1, 2, 11), api.OK)
	want(t, "Beat", g.Beat(3, 2, 20), api.OK)
	gone(t, g, 110)
	gone(t, g, 111, 2, 4)
	stands(t, "two of four", g, group.Calling, 2, 1, 3)
	deals(t, "the assignment stays", g, has(1, 0), has(2, 1), has(3, 2), has(4))
	gone(t, g, 112, 1)
	stands(t, "three of four", g, group.Calling, 2, 3)
	joins(t, g, 3, 2, 112, told(3))
	stands(t, "the last one", g, group.Stable, 3, 3)

	g = stable(t, long, 10, 9, 40, 7, 64)
	gone(t, g, 500, 7, 9, 40, 64)
	stands(t, "all of them", g, group.Empty, 2)
	deals(t, "all of them", g)
	joins(t, g, 7, 2, 500, told(3))
}

// P12.4: a silent member was the one that all others waited for; and one that had rejoined is silent too.
func TestTickCompletesBySilence(t *testing.T) {
	long := group.Config{Parts: 3, Session: 100, Rebalance: 1000}
	g := stable(t, long, 0, 1, 2, 3)
	joins(t, g, 1, 0, 60, busy, 0)
	joins(t, g, 3, 2, 60, busy, 2)
	gone(t, g, 101, 2)
	stands(t, "completed", g, group.Stable, 3, 1, 3)
	deals(t, "completed", g, has(1, 0, 1), has(3, 2))
	joins(t, g, 1, 0, 101, told(3))
	joins(t, g, 3, 0, 101, told(3))

	g = stable(t, long, 0, 1, 2, 3)
	joins(t, g, 3, 0, 10, busy, 2)
	joins(t, g, 1, 2, 50, busy, 0)
	gone(t, g, 111, 2, 3) // 2 completes the rebalance, and 3 starts the next one
	stands(t, "completed and started", g, group.Calling, 3, 1)
	deals(t, "completed and started", g, has(1, 0, 1), has(3, 2))
	joins(t, g, 1, 3, 111, told(4))

	g = stable(t, long, 0, 1, 2, 3)
	joins(t, g, 1, 0, 10, busy, 0)
	joins(t, g, 3, 2, 50, busy, 2)
	gone(t, g, 111, 1, 2) // 1 goes ahead of 2, while 2 is still waited for
	stands(t, "completed", g, group.Stable, 3, 3)
}

// P12.4: a rebalance that takes Rebalance ticks is completed without those who are missing.
func TestTickRebalance(t *testing.T) {
	long := group.Config{Parts: 3, Session: 1000, Rebalance: 50}
	g := stable(t, long, 10, 1, 2, 3, 4)
	joins(t, g, 3, 0, 20, busy, 1)
	joins(t, g, 1, 2, 30, busy)
	gone(t, g, 69)
	stands(t, "one tick ahead", g, group.Calling, 2, 1, 2, 3, 4)
	gone(t, g, 70, 2, 4)
	stands(t, "completed", g, group.Stable, 3, 1, 3)
	deals(t, "completed", g, has(1, 0), has(3, 1, 2))
	gone(t, g, 700)
	want(t, "Beat", g.Beat(3, 3, 700), api.OK)
	joins(t, g, 2, 2, 700, busy)
	gone(t, g, 749)
	gone(t, g, 751, 1, 3) // later than need be
	stands(t, "completed", g, group.Stable, 4, 2)
	deals(t, "completed", g, has(2, 0, 1, 2))

	g = stable(t, long, 0, 1, 2, 3)
	want(t, "Leave", g.Leave(3, 5), api.OK)
	gone(t, g, 54)
	gone(t, g, 55, 1, 2) // nobody has rejoined
	stands(t, "nobody", g, group.Empty, 2)
	deals(t, "nobody", g)
	joins(t, g, 1, 2, 55, told(3))

	g = stable(t, long, 0, 1, 2)
	gone(t, g, 500) // where there is no rebalance, none is completed
	stands(t, "stable", g, group.Stable, 2, 1, 2)
	gone(t, made(t, long), 500)
}

// A rebalance is counted from its own start, whatever happens in it.
func TestTickCountsFromTheStart(t *testing.T) {
	long := group.Config{Parts: 3, Session: 1000, Rebalance: 50}
	g := stable(t, long, 0, 1, 2, 3)
	joins(t, g, 1, 0, 100, busy)
	joins(t, g, 1, 0, 120, busy)
	joins(t, g, 4, 0, 130, busy)
	want(t, "Beat", g.Beat(2, 2, 140), api.ErrBusy)
	want(t, "Leave", g.Leave(4, 145), api.OK)
	gone(t, g, 149)
	gone(t, g, 150, 2, 3)
	stands(t, "completed", g, group.Stable, 3, 1)

	g = stable(t, long, 0, 1, 2, 3)
	joins(t, g, 1, 0, 100, busy)
	joins(t, g, 2, 2, 120, busy)
	want(t, "Leave", g.Leave(3, 130), api.OK)
	joins(t, g, 1, 0, 140, told(3))
	joins(t, g, 1, 0, 149, busy)
	gone(t, g, 198)
	gone(t, g, 199, 2)
}

// P12.4: members that are silent, and a rebalance that is due, at once.
func TestTickBoth(t *testing.T) {
	g := stable(t, usual, 0, 1, 2, 3, 4)
	joins(t, g, 3, 0, 51, busy, 2)
	want(t, "Beat", g.Beat(2, 2, 60), api.ErrBusy)
	gone(t, g, 101, 1, 2, 4) // 1 and 4 are silent, 2 has not rejoined
	stands(t, "both", g, group.Stable, 3, 3)
	deals(t, "both", g, has(3, 0, 1, 2))

	g = stable(t, usual, 0, 1, 2, 3, 4)
	joins(t, g, 1, 2, 50, told(2))
	gone(t, g, 101, 2, 3, 4) // the rebalance that starts by this takes its time
	stands(t, "started", g, group.Calling, 2, 1)
	gone(t, g, 150)
	gone(t, g, 151, 1)
	stands(t, "due, and nobody there", g, group.Empty, 2)

	g = stable(t, usual, 0, 1, 2, 3)
	joins(t, g, 1, 0, 20, busy)
	joins(t, g, 3, 2, 20, busy)
	gone(t, g, 121, 1, 2, 3) // 2 goes while 3 is still there, and that completes the rebalance
	stands(t, "all", g, group.Empty, 3)
	deals(t, "all", g)

	g = stable(t, usual, 0, 1, 2, 3)
	joins(t, g, 1, 0, 30, busy)
	joins(t, g, 3, 2, 10, busy) // counts as at 30
	gone(t, g, 79)
	gone(t, g, 80, 2)
	stands(t, "the rebalance alone", g, group.Stable, 3, 1, 3)

	shortSession := group.Config{Parts: 3, Session: 20, Rebalance: 50}
	g = stable(t, shortSession, 0, 1, 2, 3)
	joins(t, g, 1, 0, 10, busy)
	gone(t, g, 30, 2, 3) // those that are silent complete it ahead of its time
	stands(t, "silence alone", g, group.Stable, 3, 1)
}

// A time that has passed counts as the latest one that was passed to any call.
func TestTimeGoesBack(t *testing.T) {
	long := group.Config{Parts: 3, Session: 100, Rebalance: 1000}
	for what, call := range map[string]func(g *group.Group){
		"Join":               func(g *group.Group) { joins(t, g, 1, 2, 50, told(2)) },
		"Beat":               func(g *group.Group) { want(t, "Beat", g.Beat(1, 2, 50), api.OK) },
		"Beat, refused":      func(g *group.Group) { want(t, "Beat", g.Beat(1, 1, 50), api.ErrGeneration) },
		"Tick":               func(g *group.Group) { gone(t, g, 50) },
		"Beat of nobody":     func(g *group.Group) { want(t, "Beat", g.Beat(9, 2, 50), api.ErrMember) },
		"Leave of nobody":    func(g *group.Group) { want(t, "Leave", g.Leave(9, 50), api.ErrMember) },
		"Copy":               func(g *group.Group) { gone(t, g, 50) },
		"the latest of many": func(g *group.Group) { gone(t, g, 20); gone(t, g, 50); gone(t, g, 30) },
	} {
		for _, back := range []int64{0, 49, 50} {
			g := stable(t, long, 0, 1, 2, 3)
			call(g)
			if what == "Copy" {
				g = g.Copy()
			}
			joins(t, g, 2, 2, back, told(2))
			want(t, what, g.Beat(1, 2, back), api.OK)
			gone(t, g, 100)
			gone(t, g, 101, 3)
			gone(t, g, 0)
			gone(t, g, 150)
			gone(t, g, 151, 1, 2)
		}
	}
}

// What a call at a time that has passed starts or completes counts from the latest time too.
func TestRebalanceAtATimeThatHasPassed(t *testing.T) {
	long := group.Config{Parts: 3, Session: 1000, Rebalance: 50}
	for what, start := range map[string]func(g *group.Group){
		"Join":             func(g *group.Group) { joins(t, g, 1, 0, 5, busy) },
		"Join of one more": func(g *group.Group) { joins(t, g, 4, 0, 5, busy) },
		"Leave":            func(g *group.Group) { want(t, "Leave", g.Leave(1, 5), api.OK) },
	} {
		g := stable(t, long, 0, 1, 2, 3)
		gone(t, g, 200)
		start(g)
		stands(t, what, g, group.Calling, 2, g.Members()...)
		gone(t, g, 249)
		gone(t, g, 100)
		stands(t, what, g, group.Calling, 2, g.Members()...)
		if l := g.Tick(250); len(l) == 0 || g.State() == group.Calling {
			t.Errorf("%s: %v, state %d", what, l, g.State())
		}
	}
	g := stable(t, long, 0, 1, 2)
	joins(t, g, 1, 0, 100, busy)
	want(t, "Beat", g.Beat(2, 2, 160), api.ErrBusy)
	gone(t, g, 3, 2) // it is 160, and the rebalance is due
	stands(t, "due at a time that has passed", g, group.Stable, 3, 1)

	g = loaded(t, "Load", encoded(2, has(1, 0, 1), has(2, 2)), long, 300)
	joins(t, g, 1, 0, 0, busy)
	gone(t, g, 349)
	gone(t, g, 350, 2)
	g = loaded(t, "Load", encoded(2, has(1, 0, 1), has(2, 2)), long, 300)
	gone(t, g, 0)
	want(t, "Beat", g.Beat(1, 2, 500), api.OK)
	gone(t, g, 1300)
	gone(t, g, 1301, 2)
}
