package assign_test

import (
	"math"
	"math/rand"
	"slices"
	"testing"

	"towpath/api"
	"towpath/assign"
)

// P11.4: each fault by itself, and ahead of the later ones.
func TestCheck(t *testing.T) {
	for _, c := range []struct {
		what string
		n    int
		l    []assign.Held
		err  api.Errno
	}{
		{"no partitions", 0, list(has(1)), api.OK},
		{"no partitions", 0, nothing(upTo(64)...), api.OK},
		{"one", 1, list(has(64, 0)), api.OK},
		{"of one member", 3, list(has(7, 0, 1, 2)), api.OK},
		{"even", 4, list(has(1, 0, 3), has(2, 1, 2)), api.OK},
		{"even but for the rest", 5, list(has(1, 1, 3), has(2, 0, 2, 4)), api.OK},
		{"fewer than members", 1, list(has(1), has(2, 0), has(3)), api.OK},

		{"the example", 2, list(has(1, 0, 1), has(2)), api.ErrOrder},
		{"the second one has too many", 2, list(has(1), has(2, 0, 1)), api.ErrOrder},
		{"two more than the last one", 7, list(has(1, 0, 1, 2), has(2, 3, 4, 5), has(3, 6)), api.ErrOrder},
		{"two more than the first one", 5, list(has(1, 0), has(2, 1), has(3, 2, 3, 4)), api.ErrOrder},
		{"two more than the one amidst", 7, list(has(1, 0, 1, 2), has(2, 6), has(3, 3, 4, 5)), api.ErrOrder},

		{"lacks the first one", 3, list(has(1, 1), has(2, 2)), api.ErrForm},
		{"lacks one amidst", 3, list(has(1, 0), has(2, 2)), api.ErrForm},
		{"lacks the last one", 3, list(has(1, 0), has(2, 1)), api.ErrForm},
		{"lacks all", 3, list(has(1), has(2)), api.ErrForm},
		{"lacks the only one", 1, list(has(1)), api.ErrForm},
		{"twice of two members", 2, list(has(1, 0), has(2, 0)), api.ErrForm},
		{"twice of two members, none lacking", 2, list(has(1, 0, 1), has(2, 0)), api.ErrForm},
		{"twice of one member", 2, list(has(1, 0, 0), has(2, 1)), api.ErrForm},
		{"twice of one member instead of another one", 3, list(has(1, 0, 0), has(2, 1)), api.ErrForm},
		{"one that is none", 2, list(has(1, 0), has(2, 1, 2)), api.ErrForm},
		{"one that is none instead of another one", 2, list(has(1, 0), has(2, 2)), api.ErrForm},
		{"below 0", 2, list(has(1, 0), has(2, -1, 1)), api.ErrForm},
		{"below 0 instead of another one", 2, list(has(1, -1), has(2, 1)), api.ErrForm},
		{"one where there is none", 0, list(has(1, 0)), api.ErrForm},
		{"far beyond", 2, list(has(1, 0, math.MaxInt), has(2, 1)), api.ErrForm},
		{"far below", 2, list(has(1, math.MinInt, 0), has(2, 1)), api.ErrForm},
		{"not sorted", 4, list(has(1, 0, 3), has(2, 2, 1)), api.ErrForm},
		{"not sorted, the first one", 4, list(has(1, 3, 0), has(2, 1, 2)), api.ErrForm},
		{"not sorted, at the end", 6, list(has(1, 0, 2, 1), has(2, 3, 4, 5)), api.ErrForm},

		{"not complete and not even", 3, list(has(1, 0, 1), has(2)), api.ErrForm},
		{"not sorted and not even", 2, list(has(1, 1, 0), has(2)), api.ErrForm},
		{"twice and not even", 2, list(has(1, 0, 1), has(2), has(3, 0)), api.ErrForm},
		{"members not increasing, not complete", 3, list(has(2, 0), has(1, 1)), api.ErrArg},
		{"members not increasing, not even", 2, list(has(2, 0, 1), has(1)), api.ErrArg},
		{"a member beyond the last one, not sorted", 2, list(has(1), has(65, 1, 0)), api.ErrArg},
		{"members not increasing", 2, list(has(2, 0), has(1, 1)), api.ErrArg},
		{"nobody, not complete", 3, nil, api.ErrNone},
		{"nobody, and nothing", 0, nil, api.ErrNone},
		{"too many partitions, not complete", 257, list(has(1, 0)), api.ErrArg},
		{"less than none", -1, list(has(1)), api.ErrArg},
		{"less than none, nobody", -1, nil, api.ErrArg},
	} {
		want(t, tell("Check: ", c.what, " ", c.n, c.l), assign.Check(c.n, c.l...), c.err)
	}
	for _, m := range []int{1, 2, 3, 63, 64} {
		l, _ := assign.Range(256, upTo(m)...)
		want(t, "256 partitions", assign.Check(256, l...), api.OK)
		want(t, "256 of 255 partitions", assign.Check(255, l...), api.ErrForm)
		want(t, "256 of 257 partitions", assign.Check(257, l...), api.ErrArg)
	}
}

// P11.4: small lists of all kinds.
func TestCheckByDefinition(t *testing.T) {
	rnd := rand.New(rand.NewSource(4))
	times := map[api.Errno]int{}
	for range 40000 {
		n := rnd.Intn(6)
		members := someMembers(rnd, 4)
		l := someAssignment(rnd, n, members)
		if rnd.Intn(4) == 0 {
			l = nothing(members...)
			for p := range n {
				i := rnd.Intn(len(l))
				l[i].Parts = append(l[i].Parts, p)
			}
		}
		for range rnd.Intn(3) {
			i := rnd.Intn(len(l))
			switch k := len(l[i].Parts); {
			case rnd.Intn(3) == 0:
				l[i].Parts = append(l[i].Parts, rnd.Intn(n+2)-1)
			case k > 0 && rnd.Intn(2) == 0:
				l[i].Parts[rnd.Intn(k)] = rnd.Intn(n+2) - 1
			case k > 0:
				l[i].Parts = slices.Delete(l[i].Parts, k-1, k)
			}
		}
		err := api.OK
		if !isComplete(n, l) {
			err = api.ErrForm
		} else if !isEven(l) {
			err = api.ErrOrder
		}
		times[err]++
		want(t, tell("Check ", n, l), assign.Check(n, l...), err)
	}
	if times[api.OK] < 1000 || times[api.ErrForm] < 1000 || times[api.ErrOrder] < 1000 {
		t.Error("too few to tell", times)
	}
}

// P11.4: the first member that has it, in the order of the list.
func TestOwner(t *testing.T) {
	example := list(has(1, 0, 1, 2), has(2, 3, 4))
	odd := list(has(9, 5, -3), has(2, 7, 5), has(9, 7), has(0, 8), has(-4, 6, 8), has(70, math.MaxInt))
	for _, c := range []struct {
		part  int
		l     []assign.Held
		owner int
	}{
		{3, example, 2},
		{4, example, 2},
		{0, example, 1},
		{2, example, 1},
		{5, example, 0},
		{-1, example, 0},
		{0, nil, 0},
		{0, list(has(1), has(2)), 0},
		{5, odd, 9},
		{7, odd, 2},
		{-3, odd, 9},
		{8, odd, 0},
		{6, odd, -4},
		{math.MaxInt, odd, 70},
		{math.MinInt, odd, 0},
	} {
		if got := assign.Owner(c.part, c.l...); got != c.owner {
			t.Errorf("Owner(%d, %v): %d, not %d", c.part, c.l, got, c.owner)
		}
	}
}

// P11.4: pairs that stand in both, and in the second list alone.
func TestKeptAndMoved(t *testing.T) {
	sticky, round := list(has(1, 0, 1, 2), has(2, 3, 4)), list(has(1, 0, 2, 4), has(2, 1, 3))
	for _, c := range []struct {
		what        string
		was, now    []assign.Held
		kept, moved int
	}{
		{"the example", sticky, round, 3, 2},
		{"the other way", round, sticky, 3, 2},
		{"the same", sticky, sticky, 5, 0},
		{"nothing", nil, nil, 0, 0},
		{"from nothing", nil, sticky, 0, 5},
		{"to nothing", sticky, nil, 0, 0},
		{"members without partitions", list(has(1), has(2)), list(has(1), has(3)), 0, 0},
		{"a member that goes", list(has(1, 0), has(2, 1)), list(has(1, 0, 1)), 1, 1},
		{"a member that comes", list(has(1, 0, 1)), list(has(1, 0), has(2, 1)), 1, 1},
		{"all to another member", list(has(1, 0, 1)), list(has(2, 0, 1)), 0, 2},
		{"twice in the first list", list(has(1, 0, 0, 0)), list(has(1, 0)), 1, 0},
		{"twice in the second list", list(has(1, 0)), list(has(1, 0, 0, 1, 1)), 1, 1},
		{"twice in both", list(has(1, 0, 0)), list(has(1, 0, 0)), 1, 0},
		{"a member twice", list(has(1, 0), has(1, 1)), list(has(1, 1, 0, 2), has(1, 2)), 2, 1},
		{"a member twice in the second list", list(has(1, 0)), list(has(1, 0), has(2, 0), has(1, 0)), 1, 1},
		{"in another order", list(has(2, 4, 3), has(1, 0)), list(has(1, 0), has(2, 3, 4)), 3, 0},
		{"numbers of any kind", list(has(-1, -5, math.MaxInt), has(99, 7)), list(has(-1, math.MaxInt, -5), has(99, 8), has(0, 7)), 2, 2},
		{"a member and a partition changed about", list(has(1, 2)), list(has(2, 1)), 0, 1},
	} {
		if kept, moved := assign.Kept(c.was, c.now), assign.Moved(c.was, c.now); kept != c.kept || moved != c.moved {
			t.Errorf("%s: Kept %d, Moved %d, not %d, %d", c.what, kept, moved, c.kept, c.moved)
		}
	}
	rnd := rand.New(rand.NewSource(5))
	for range 3000 {
		was, now := someClaims(rnd, 5, someMembers(rnd, 20)), someClaims(rnd, 5, someMembers(rnd, 20))
		had, kept, moved := map[[2]int]int{}, map[[2]int]int{}, map[[2]int]int{}
		for _, h := range was {
			for _, p := range h.Parts {
				had[[2]int{h.Member, p}] = 1
			}
		}
		for _, h := range now {
			for _, p := range h.Parts {
				if id := [2]int{h.Member, p}; had[id] == 1 {
					kept[id] = 1
				} else {
					moved[id] = 1
				}
			}
		}
		if k, m := assign.Kept(was, now), assign.Moved(was, now); k != len(kept) || m != len(moved) {
			t.Errorf("%v, %v: Kept %d, Moved %d, not %d, %d", was, now, k, m, len(kept), len(moved))
		}
	}
}

// P11.4: members and partitions, one by one.
func TestSame(t *testing.T) {
	base := list(has(1, 0, 2), has(3), has(4, 1))
	empty := assign.Held{Member: 3, Parts: []int{}}
	for _, c := range []struct {
		what string
		a, b []assign.Held
		same bool
	}{
		{"itself", base, base, true},
		{"no list", nil, nil, true},
		{"no list and an empty one", nil, []assign.Held{}, true},
		{"an equal one", base, list(has(1, 0, 2), empty, has(4, 1)), true},
		{"another member", base, list(has(1, 0, 2), has(2), has(4, 1)), false},
		{"another last member", base, list(has(1, 0, 2), has(3), has(5, 1)), false},
		{"another partition", base, list(has(1, 0, 3), has(3), has(4, 1)), false},
		{"another first partition", base, list(has(1, 1, 2), has(3), has(4, 1)), false},
		{"one partition more", base, list(has(1, 0, 2), has(3, 0), has(4, 1)), false},
		{"one at the end more", base, list(has(1, 0, 2), has(3), has(4, 1, 2)), false},
		{"one partition less", base, list(has(1, 0), has(3), has(4, 1)), false},
		{"partitions in another order", base, list(has(1, 2, 0), has(3), has(4, 1)), false},
		{"members in another order", base, list(has(3), has(1, 0, 2), has(4, 1)), false},
		{"one member more", base, list(has(1, 0, 2), has(3), has(4, 1), has(5)), false},
		{"one member less", base, list(has(1, 0, 2), has(3)), false},
		{"no list", base, nil, false},
		{"a member without anything", list(has(1)), nil, false},
		{"partitions of another member", list(has(1, 0), has(2)), list(has(1), has(2, 0)), false},
		{"what may be no assignment", list(has(0, -1, -1), has(0)), list(has(0, -1, -1), has(0)), true},
	} {
		if assign.Same(c.a, c.b) != c.same || assign.Same(c.b, c.a) != c.same {
			t.Errorf("Same, %s: %v", c.what, !c.same)
		}
	}
}

// P11.4: a copy says the same, and goes on by itself.
func TestCopy(t *testing.T) {
	if got := assign.Copy(nil); len(got) != 0 {
		t.Error("Copy of nothing", got)
	}
	base := list(has(1, 0, 2), has(3), has(-4, 9, 9))
	copied := assign.Copy(base)
	dealt(t, "Copy", copied, api.OK, base...)
	copied[0].Parts[0], copied[1].Member = 7, 8
	_ = append(copied[:1], has(9))
	dealt(t, "what was copied", base, api.OK, has(1, 0, 2), has(3), has(-4, 9, 9))
	copied = assign.Copy(base)
	base[0].Parts[1], base[2].Member, base[1].Parts = 7, 8, []int{1}
	dealt(t, "the copy", copied, api.OK, has(1, 0, 2), has(3), has(-4, 9, 9))
}

// Calls that compare leave what they are given as it is.
func TestComparedStays(t *testing.T) {
	a, b := list(has(2, 4, 3, 3), has(1, 0)), list(has(1, 1, 0), has(2, 3))
	before := tell(a, b)
	assign.Check(5, a...)
	assign.Check(5, b...)
	assign.Owner(3, a...)
	assign.Kept(a, b)
	assign.Moved(a, b)
	assign.Same(a, b)
	if tell(a, b) != before {
		t.Error(a, b, "not", before)
	}
}
