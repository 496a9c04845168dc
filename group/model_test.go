package group_test

import (
	"fmt"
	"math/rand"
	"slices"
	"testing"

	"towpath/api"
	"towpath/assign"
	"towpath/group"
)

// row is a member of the model.
type row struct {
	number         int
	heard          int64
	rejoined, told bool
	claims         []int
}

// model is a group as the chapter tells it, in a list that is looked through each time.
type model struct {
	c             group.Config
	latest, start int64
	state         int
	generation    int
	dealing       []assign.Held
	rows          []*row
}

func (m *model) row(number int) *row {
	for _, r := range m.rows {
		if r.number == number {
			return r
		}
	}
	return nil
}

func (m *model) numbers() []int {
	var l []int
	for _, r := range m.rows {
		l = append(l, r.number)
	}
	slices.Sort(l)
	return l
}

func (m *model) without(number int) {
	m.rows = slices.DeleteFunc(m.rows, func(r *row) bool { return r.number == number })
	if len(m.rows) == 0 {
		m.state, m.dealing = 0, nil
	}
}

func (m *model) startRebalance() {
	m.state, m.start = 1, m.latest
	for _, r := range m.rows {
		r.rejoined = false
	}
}

func (m *model) missing() []int {
	var l []int
	for _, number := range m.numbers() {
		if !m.row(number).rejoined {
			l = append(l, number)
		}
	}
	return l
}

func (m *model) completeRebalance() (removed []int, done bool) {
	if m.generation >= 1<<31-1 {
		return nil, false
	}
	removed = m.missing()
	for _, number := range removed {
		m.without(number)
	}
	if len(m.rows) == 0 {
		return removed, true
	}
	var claims []assign.Held
	for _, number := range m.numbers() {
		r := m.row(number)
		r.told = false
		claims = append(claims, assign.Held{Member: number, Parts: r.claims})
	}
	m.generation++
	m.dealing, _ = assign.Sticky(m.c.Parts, claims...)
	m.state = 2
	return removed, true
}

func (m *model) remove(number int) {
	m.without(number)
	switch {
	case len(m.rows) == 0:
	case m.state == 2:
		m.startRebalance()
	case len(m.missing()) == 0:
		m.completeRebalance()
	}
}

func (m *model) enter(number int, now int64) api.Errno {
	if now < 0 || now > 1<<40 || number < 1 || number > 64 {
		return api.ErrArg
	}
	m.latest = max(m.latest, now)
	return api.OK
}

func (m *model) join(number, generation int, now int64, claims []int) (int, api.Errno) {
	if err := m.enter(number, now); err != api.OK {
		return 0, err
	}
	r := m.row(number)
	before := r != nil
	if !before {
		r = &row{number: number}
		m.rows = append(m.rows, r)
	}
	r.heard = m.latest
	if m.state == 2 && before && (!r.told || generation == m.generation) {
		r.told = true
		return m.generation, api.OK
	}
	if m.state != 1 {
		m.startRebalance()
	}
	r.rejoined, r.claims = true, slices.Clone(claims)
	if len(m.missing()) > 0 {
		return 0, api.ErrBusy
	}
	if _, done := m.completeRebalance(); !done {
		return 0, api.ErrExhausted
	}
	r.told = true
	return m.generation, api.OK
}

func (m *model) beat(number, generation int, now int64) api.Errno {
	if err := m.enter(number, now); err != api.OK {
		return err
	}
	r := m.row(number)
	if r == nil {
		return api.ErrMember
	}
	r.heard = m.latest
	switch {
	case generation != m.generation:
		return api.ErrGeneration
	case m.state != 2:
		return api.ErrBusy
	}
	return api.OK
}

func (m *model) leave(number int, now int64) api.Errno {
	if err := m.enter(number, now); err != api.OK {
		return err
	}
	if m.row(number) == nil {
		return api.ErrMember
	}
	m.remove(number)
	return api.OK
}

func (m *model) tick(now int64) []int {
	if now < 0 || now > 1<<40 {
		return nil
	}
	m.latest = max(m.latest, now)
	var l []int
	for number := 1; number <= 64; number++ {
		if r := m.row(number); r != nil && m.latest-r.heard > m.c.Session {
			m.remove(number)
			l = append(l, number)
		}
	}
	if m.state == 1 && m.latest-m.start >= m.c.Rebalance {
		removed, _ := m.completeRebalance()
		l = append(l, removed...)
	}
	slices.Sort(l)
	return l
}

func (m *model) parts(number, generation int) ([]int, api.Errno) {
	switch {
	case number < 1 || number > 64:
		return nil, api.ErrArg
	case m.row(number) == nil:
		return nil, api.ErrMember
	case generation != m.generation:
		return nil, api.ErrGeneration
	}
	for _, h := range m.dealing {
		if h.Member == number {
			return h.Parts, api.OK
		}
	}
	return nil, api.ErrGeneration
}

func (m *model) may(number, generation, part int) api.Errno {
	l, err := m.parts(number, generation)
	if err == api.OK && !slices.Contains(l, part) {
		return api.ErrArg
	}
	return err
}

// load makes the model what Load makes of the bytes of a group.
func (m *model) load(now int64) {
	m.latest, m.start, m.state, m.rows = now, 0, 0, nil
	for _, h := range m.dealing {
		m.state = 2
		m.rows = append(m.rows, &row{number: h.Member, heard: now, told: true})
	}
}

// agree holds all that a call can tell of a group against the model.
func agree(t *testing.T, what string, g *group.Group, m *model) {
	t.Helper()
	stands(t, what, g, m.state, m.generation, m.numbers()...)
	deals(t, what, g, m.dealing...)
	if got, want := g.Bytes(), encoded(m.generation, m.dealing...); string(got) != string(want) {
		t.Errorf("%s: Bytes %x, not %x", what, got, want)
	}
	for number := -1; number < 8; number++ {
		for generation := m.generation - 1; generation <= m.generation+1; generation++ {
			want, as := m.parts(number, generation)
			if l, err := g.Parts(number, generation); !slices.Equal(l, want) || err != as {
				t.Errorf("%s: Parts(%d, %d): %v, %d, not %v, %d", what, number, generation, l, err, want, as)
			}
			for part := -1; part <= m.c.Parts; part++ {
				if err, want := g.May(number, generation, part), m.may(number, generation, part); err != want {
					t.Errorf("%s: May(%d, %d, %d): %d, not %d", what, number, generation, part, err, want)
				}
			}
		}
	}
}

// act makes one call on both, any one, and tells it.
func act(rnd *rand.Rand, g *group.Group, m *model) (what, got, want string) {
	number := 1 + rnd.Intn(5)
	if rnd.Intn(30) == 0 {
		number = []int{-1, 0, 64, 65}[rnd.Intn(4)]
	}
	generation := m.generation
	if rnd.Intn(4) == 0 {
		generation += rnd.Intn(3) - 1
	}
	now := m.latest + int64(rnd.Intn(9)) - 2
	switch rnd.Intn(30) {
	case 0:
		now -= int64(rnd.Intn(90))
	case 1:
		now += int64(rnd.Intn(30))
	case 2:
		now = []int64{-1, 1<<40 + 1}[rnd.Intn(2)]
	}
	switch rnd.Intn(10) {
	case 0, 1, 2, 3:
		var claims []int
		for range rnd.Intn(6) {
			claims = append(claims, rnd.Intn(m.c.Parts+3)-1)
		}
		given := slices.Clone(claims)
		n, err := g.Join(number, generation, now, given...)
		for i := range given {
			given[i] = 0
		}
		k, as := m.join(number, generation, now, claims)
		return fmt.Sprint("Join ", number, generation, now, claims), fmt.Sprint(n, err), fmt.Sprint(k, as)
	case 4, 5:
		return fmt.Sprint("Beat ", number, generation, now), fmt.Sprint(g.Beat(number, generation, now)), fmt.Sprint(m.beat(number, generation, now))
	case 6:
		if rnd.Intn(2) == 0 {
			return fmt.Sprint("Leave ", number, now), fmt.Sprint(g.Leave(number, now)), fmt.Sprint(m.leave(number, now))
		}
		fallthrough
	default:
		return fmt.Sprint("Tick ", now), fmt.Sprint(g.Tick(now)), fmt.Sprint(m.tick(now))
	}
}

// P12.2 to P12.7: any calls answer as the model does; what is told by a copy, or loaded, goes on as it has to.
func TestByModel(t *testing.T) {
	rnd := rand.New(rand.NewSource(1))
	for range 3000 {
		c := group.Config{Parts: rnd.Intn(8), Session: 1 + int64(rnd.Intn(30)), Rebalance: 1 + int64(rnd.Intn(30))}
		g, m := made(t, c), &model{c: c}
		if rnd.Intn(4) == 0 {
			m.generation = lastGeneration - rnd.Intn(4)
			g = loaded(t, "a late generation", encoded(m.generation), c, 0)
		}
		var past []string
		for range 60 {
			what, got, want := act(rnd, g, m)
			past = append(past, what)
			if got != want {
				t.Fatalf("%v behind %v: %s, not %s", c, past, got, want)
			}
			switch rnd.Intn(40) {
			case 0:
				other := g
				g = g.Copy()
				other.Tick(api.MaxTime)
				other.Join(9, 0, 0, 1)
				past = append(past, "Copy")
			case 1:
				now := m.latest + int64(rnd.Intn(20)) - 10
				if now >= 0 {
					g = loaded(t, "Load", g.Bytes(), c, now)
					m.load(now)
					past = append(past, "Load")
				}
			}
			agree(t, what, g, m)
			if t.Failed() {
				t.Fatal(c, past)
			}
		}
	}
}

// P12.8, P12.9: a partition has one owner in a generation, and no generation that has passed is accepted.
func TestOneOwner(t *testing.T) {
	rnd := rand.New(rand.NewSource(2))
	for range 300 {
		c := group.Config{Parts: 1 + rnd.Intn(6), Session: 40, Rebalance: 20}
		g, m := made(t, c), &model{c: c}
		owners := map[[2]int]int{} // of a generation's partition
		for range 120 {
			before := g.Generation()
			act(rnd, g, m)
			if g.Generation() < before {
				t.Fatal("the generation falls", before, g.Generation())
			}
			for generation := range g.Generation() + 2 {
				for part := range c.Parts {
					for member := range 65 {
						if g.May(member, generation, part) != api.OK {
							continue
						}
						id := [2]int{generation, part}
						if owner, ok := owners[id]; ok && owner != member || generation != g.Generation() {
							t.Fatalf("May(%d, %d, %d) in generation %d; the owner is %d", member, generation, part, g.Generation(), owner)
						}
						owners[id] = member
					}
				}
			}
			if g.State() != group.Empty && assign.Check(c.Parts, g.Dealing()...) != api.OK {
				t.Fatal("not complete, or not even", g.Dealing())
			}
			if l := g.Dealing(); g.State() == group.Empty && len(l) > 0 {
				t.Fatal("nobody has", l)
			}
		}
	}
}

// P12.10: when all members of a group that is calling have joined, in any order and with any claims, the group is stable, and tells all of them one generation.
func TestConvergence(t *testing.T) {
	rnd := rand.New(rand.NewSource(3))
	converged := 0
	for range 2000 {
		c := group.Config{Parts: rnd.Intn(10), Session: 60, Rebalance: 40}
		g, m := made(t, c), &model{c: c}
		for range 10 + rnd.Intn(60) {
			act(rnd, g, m)
		}
		if g.State() != group.Calling {
			continue
		}
		converged++
		members := g.Members()
		for _, i := range rnd.Perm(len(members)) {
			if g.State() == group.Calling {
				g.Join(members[i], rnd.Intn(5), m.latest, rnd.Perm(c.Parts)...)
			}
		}
		generation := g.Generation()
		stands(t, "all joined", g, group.Stable, generation, members...)
		for _, i := range rnd.Perm(len(members)) {
			joins(t, g, members[i], generation, m.latest, told(generation))
			want(t, "Beat", g.Beat(members[i], generation, m.latest), api.OK)
		}
		stands(t, "all told", g, group.Stable, generation, members...)
	}
	if converged < 200 {
		t.Error("too few to tell", converged)
	}
}

// P12.11: whoever was silent for more than Session ticks is no longer there behind the next Tick.
func TestSilent(t *testing.T) {
	rnd := rand.New(rand.NewSource(4))
	for range 1000 {
		c := group.Config{Parts: 4, Session: 1 + int64(rnd.Intn(20)), Rebalance: 1 + int64(rnd.Intn(40))}
		g, m := made(t, c), &model{c: c}
		for range 50 {
			act(rnd, g, m)
			if now := m.latest; rnd.Intn(3) == 0 {
				before := g.Members()
				removed := g.Tick(now)
				m.tick(now)
				for _, number := range before {
					there := slices.Contains(g.Members(), number)
					if there == slices.Contains(removed, number) || there && now-m.row(number).heard > c.Session {
						t.Fatalf("member %d of %v at %d: there %v, removed %v", number, before, now, there, removed)
					}
				}
			}
		}
	}
}
