package group_test

import (
	"encoding/binary"
	"fmt"
	"hash/crc32"
	"slices"
	"testing"

	"towpath/api"
	"towpath/assign"
	"towpath/group"
)

// The calls keep the signatures that the chapter lists.
var (
	_ func(group.Config) (*group.Group, api.Errno)                                  = group.New
	_ func([]byte, group.Config, int64) (*group.Group, api.Errno)                   = group.Load
	_ func(g *group.Group, m, generation int, now int64, c ...int) (int, api.Errno) = (*group.Group).Join
	_ func(g *group.Group, member, generation int, now int64) api.Errno             = (*group.Group).Beat
	_ func(*group.Group, int, int64) api.Errno                                      = (*group.Group).Leave
	_ func(*group.Group, int64) []int                                               = (*group.Group).Tick
	_ func(g *group.Group, member, generation int) ([]int, api.Errno)               = (*group.Group).Parts
	_ func(g *group.Group, member, generation, part int) api.Errno                  = (*group.Group).May
	_ func(*group.Group) int                                                        = (*group.Group).State
	_ func(*group.Group) int                                                        = (*group.Group).Generation
	_ func(*group.Group) []int                                                      = (*group.Group).Members
	_ func(*group.Group) []assign.Held                                              = (*group.Group).Dealing
	_ func(*group.Group) []byte                                                     = (*group.Group).Bytes
	_ func(*group.Group) *group.Group                                               = (*group.Group).Copy
	_ struct {
		Parts              int
		Session, Rebalance int64
	} = group.Config{}
)

// usual is the config of most tests.
var usual = group.Config{Parts: 3, Session: 100, Rebalance: 50}

const lastGeneration = 1<<31 - 1

func made(t *testing.T, c group.Config) *group.Group {
	t.Helper()
	g, err := group.New(c)
	if err != api.OK || g == nil {
		t.Fatalf("New(%v): %v, %d", c, g, err)
	}
	return g
}

func want(t *testing.T, what string, got, err api.Errno) {
	t.Helper()
	if got != err {
		t.Errorf("%s: %d, not %d", what, got, err)
	}
}

// answer is what Join is to return. With an error there is no generation.
type answer struct {
	generation int
	err        api.Errno
}

var (
	busy      = answer{0, api.ErrBusy}
	exhausted = answer{0, api.ErrExhausted}
	wrong     = answer{0, api.ErrArg}
)

func told(generation int) answer { return answer{generation, api.OK} }

func joins(t *testing.T, g *group.Group, member, generation int, now int64, want answer, claims ...int) {
	t.Helper()
	if n, err := g.Join(member, generation, now, claims...); (answer{n, err}) != want {
		t.Errorf("Join(%d, %d, %d, %v): %d, %d, not %v", member, generation, now, claims, n, err, want)
	}
}

func gone(t *testing.T, g *group.Group, now int64, want ...int) {
	t.Helper()
	if l := g.Tick(now); !slices.Equal(l, want) {
		t.Errorf("Tick(%d): %v, not %v", now, l, want)
	}
}

// stands holds a group's state, generation and members against what they are to be.
func stands(t *testing.T, what string, g *group.Group, state, generation int, members ...int) {
	t.Helper()
	if g.State() != state || g.Generation() != generation || !slices.Equal(g.Members(), members) {
		t.Errorf("%s: state %d, generation %d, members %v, not %d, %d, %v", what, g.State(), g.Generation(), g.Members(), state, generation, members)
	}
}

func has(member int, parts ...int) assign.Held {
	return assign.Held{Member: member, Parts: parts}
}

func deals(t *testing.T, what string, g *group.Group, want ...assign.Held) {
	t.Helper()
	if l := g.Dealing(); !assign.Same(l, want) {
		t.Errorf("%s: %v, not %v", what, l, want)
	}
}

func partsAre(t *testing.T, g *group.Group, member, generation int, want ...int) {
	t.Helper()
	if l, err := g.Parts(member, generation); err != api.OK || !slices.Equal(l, want) {
		t.Errorf("Parts(%d, %d): %v, %d, not %v", member, generation, l, err, want)
	}
}

func noParts(t *testing.T, g *group.Group, member, generation int, want api.Errno) {
	t.Helper()
	if l, err := g.Parts(member, generation); err != want || len(l) != 0 {
		t.Errorf("Parts(%d, %d): %v, %d, not %d", member, generation, l, err, want)
	}
	for part := -1; part < 4; part++ {
		if err := g.May(member, generation, part); err != want {
			t.Errorf("May(%d, %d, %d): %d, not %d", member, generation, part, err, want)
		}
	}
}

// stable is a group of these members, all told, in generation 2 (1, if there is one member). The claims of all are none.
func stable(t *testing.T, c group.Config, now int64, members ...int) *group.Group {
	t.Helper()
	g := made(t, c)
	joins(t, g, members[0], 0, now, told(1))
	if len(members) == 1 {
		return g
	}
	for _, m := range members[1:] {
		joins(t, g, m, 0, now, busy)
	}
	joins(t, g, members[0], 1, now, told(2))
	for _, m := range members[1:] {
		joins(t, g, m, 0, now, told(2))
	}
	stands(t, "stable", g, group.Stable, 2, sorted(members)...)
	return g
}

func sorted(l []int) []int {
	l = slices.Clone(l)
	slices.Sort(l)
	return l
}

// calling is such a group that has started a rebalance: the first of these members asked for it, and is the only one that has rejoined.
func calling(t *testing.T, c group.Config, now int64, members ...int) *group.Group {
	t.Helper()
	g := stable(t, c, now, members...)
	joins(t, g, members[0], 1, now, busy)
	stands(t, "calling", g, group.Calling, 2, sorted(members)...)
	return g
}

// seen is all that a call which changes nothing can tell of a group.
func seen(g *group.Group) string {
	s := fmt.Sprintf("%d %d %v %v %x", g.State(), g.Generation(), g.Members(), g.Dealing(), g.Bytes())
	for member := range 9 {
		l, err := g.Parts(member, g.Generation())
		s += fmt.Sprint(" ", l, err)
	}
	return s
}

// unchanged holds two groups against each other by what comes of them if the same calls go on, at times that tell who was heard of when.
func unchanged(t *testing.T, what string, g, as *group.Group, times ...int64) {
	t.Helper()
	if a, b := seen(g), seen(as); a != b {
		t.Errorf("%s: %s, not %s", what, a, b)
		return
	}
	for _, now := range times {
		x, y := g.Copy(), as.Copy()
		if a, b := fmt.Sprint(x.Tick(now)), fmt.Sprint(y.Tick(now)); a != b || seen(x) != seen(y) {
			t.Errorf("%s: Tick(%d): %s, %s, not %s, %s", what, now, a, seen(x), b, seen(y))
		}
	}
	for _, member := range g.Members() {
		x, y := g.Copy(), as.Copy()
		n, err := x.Join(member, -1, 0)
		m, as := y.Join(member, -1, 0)
		if n != m || err != as || seen(x) != seen(y) {
			t.Errorf("%s: Join(%d): %d, %d, %s, not %d, %d, %s", what, member, n, err, seen(x), m, as, seen(y))
		}
	}
}

// sealed makes a frame by the library's checksum.
func sealed(body []byte) []byte {
	b := binary.LittleEndian.AppendUint32(nil, uint32(len(body)))
	b = append(b, body...)
	return binary.LittleEndian.AppendUint32(b, crc32.ChecksumIEEE(b))
}

// body encodes numbers by the library.
func body(l ...uint64) []byte {
	var b []byte
	for _, n := range l {
		b = binary.AppendUvarint(b, n)
	}
	return b
}

// encoded is the bytes of a generation and its assignment.
func encoded(generation int, l ...assign.Held) []byte {
	n := []uint64{uint64(generation), uint64(len(l))}
	for _, h := range l {
		n = append(n, uint64(h.Member), uint64(len(h.Parts)))
		for _, p := range h.Parts {
			n = append(n, uint64(p))
		}
	}
	return sealed(body(n...))
}

func loaded(t *testing.T, what string, b []byte, c group.Config, now int64) *group.Group {
	t.Helper()
	g, err := group.Load(b, c, now)
	if err != api.OK || g == nil || string(g.Bytes()) != string(b) {
		t.Fatalf("%s: Load(%x): %d, %x", what, b, err, g.Bytes())
	}
	return g
}
