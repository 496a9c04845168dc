package assign_test

import (
	"math"
	"math/rand"
	"slices"
	"testing"

	"towpath/api"
	"towpath/assign"
)

// badMembers: out of 1 to 64, or not increasing.
var badMembers = [][]int{{0}, {-1}, {65}, {math.MinInt}, {math.MaxInt}, {1<<32 + 1}, {1, 1}, {64, 64}, {2, 1}, {1, 3, 2}, {1, 2, 2}, {1, 2, 1}, {0, 1}, {1, 65}, {64, 65}, {64, 1}, append(upTo(64), 65), append(upTo(64), 1)}

// P11.1: of each call, each error alone and ahead of the later ones.
func TestErrors(t *testing.T) {
	for what, call := range map[string]func(int, []int) ([]assign.Held, api.Errno){
		"Sticky": func(n int, l []int) ([]assign.Held, api.Errno) { return assign.Sticky(n, nothing(l...)...) },
		"Range":  func(n int, l []int) ([]assign.Held, api.Errno) { return assign.Range(n, l...) },
		"Round":  func(n int, l []int) ([]assign.Held, api.Errno) { return assign.Round(n, l...) },
		"Check": func(n int, l []int) ([]assign.Held, api.Errno) {
			return nil, assign.Check(n, nothing(l...)...)
		},
	} {
		for _, n := range []int{-1, 257, math.MinInt, math.MaxInt, 1 << 32, -256} {
			for _, l := range append(badMembers, nil, []int{1}, upTo(64)) {
				got, err := call(n, l)
				refused(t, tell(what, " of ", n, " to ", l), got, err, api.ErrArg)
			}
		}
		for _, n := range []int{0, 1, 2, 255, 256} {
			got, err := call(n, nil)
			refused(t, tell(what, " of ", n, " to nobody"), got, err, api.ErrNone)
			got, err = call(n, []int{})
			refused(t, tell(what, " of ", n, " to nobody"), got, err, api.ErrNone)
			for _, l := range badMembers {
				got, err := call(n, l)
				refused(t, tell(what, " of ", n, " to ", l), got, err, api.ErrArg)
			}
		}
		for _, n := range []int{0, 1, 256} {
			for _, l := range [][]int{{1}, {64}, {1, 64}, {2, 3, 5}, upTo(63), upTo(64)} {
				if got, err := call(n, l); what != "Check" {
					fair(t, tell(what, " of ", n), n, l, got, err)
				}
			}
		}
	}
	got, err := assign.Sticky(2, has(2, 0), has(1, 1))
	refused(t, "claims of members that do not increase", got, err, api.ErrArg)
	got, err = assign.Sticky(257, has(1, 0, 256))
	refused(t, "claims of too many", got, err, api.ErrArg)
}

// P11.2: by hand.
func TestSticky(t *testing.T) {
	for _, c := range []struct {
		what string
		n    int
		was  []assign.Held
		now  []assign.Held
	}{
		{"the first example", 5, list(has(1, 0, 1, 2, 3, 4), has(2)), list(has(1, 0, 1, 2), has(2, 3, 4))},
		{"the second example", 3, list(has(1, 0), has(2, 2, 1)), list(has(1, 0), has(2, 1, 2))},

		{"no partitions", 0, list(has(3), has(7)), list(has(3), has(7))},
		{"no partitions, but claims", 0, list(has(3, 0, 1), has(7, -1)), list(has(3), has(7))},
		{"one member", 3, list(has(64)), list(has(64, 0, 1, 2))},
		{"one partition", 1, list(has(5), has(6), has(64)), list(has(5, 0), has(6), has(64))},
		{"one partition, claimed", 1, list(has(5), has(6), has(64, 0)), list(has(5), has(6), has(64, 0))},
		{"no claims", 5, list(has(1), has(2), has(3)), list(has(1, 0, 3), has(2, 1, 4), has(3, 2))},
		{"as many as members", 3, list(has(1), has(2), has(3)), list(has(1, 0), has(2, 1), has(3, 2))},
		{"fewer than members", 2, list(has(1), has(2), has(3, 0)), list(has(1, 1), has(2), has(3, 0))},
		{"fewer than members, all claimed by one", 2, list(has(1), has(2), has(3, 0, 1)), list(has(1, 1), has(2), has(3, 0))},
		{"no rest", 4, list(has(1), has(2, 0, 1, 2)), list(has(1, 2, 3), has(2, 0, 1))},

		{"numbers that are no partitions", 2, list(has(1, -1, 2, 3, math.MinInt, math.MaxInt, 1<<32, -1<<63), has(2, 1, 2)), list(has(1, 0), has(2, 1))},
		{"they do not count", 3, list(has(1, -1, 3, 4), has(2, 0, 1)), list(has(1, 2), has(2, 0, 1))},
		{"twice within a member", 4, list(has(1, 1, 1, 1, 0, 1), has(2, 3, 2, 3)), list(has(1, 0, 1), has(2, 2, 3))},
		{"twice does not count twice", 3, list(has(1, 0, 0, 0), has(2, 1, 2)), list(has(1, 0), has(2, 1, 2))},
		{"of two members", 3, list(has(1, 0, 1), has(2, 1, 0, 2)), list(has(1, 0, 1), has(2, 2))},
		{"the second one does not count", 3, list(has(1, 1, 0), has(2, 0, 1), has(3, 1, 2)), list(has(1, 0), has(2, 1), has(3, 2))},
		{"nor does it where the first one can't keep it", 4, list(has(1, 3, 2, 1, 0), has(2, 3), has(3)), list(has(1, 0, 1), has(2, 2), has(3, 3))},

		{"more than the share, and one", 7, list(has(1, 5, 4, 3, 2, 1, 0), has(2, 6)), list(has(1, 0, 1, 2, 3), has(2, 4, 5, 6))},
		{"more than the share", 7, list(has(1, 6), has(2, 5, 4, 3, 2, 1, 0)), list(has(1, 4, 5, 6), has(2, 0, 1, 2, 3))},
		{"the least ones are kept", 6, list(has(1, 4, 1, 5, 3), has(2, 2)), list(has(1, 1, 3, 4), has(2, 0, 2, 5))},
		{"a tie at one claim each", 3, list(has(1, 0), has(2, 1)), list(has(1, 0, 2), has(2, 1))},
		{"a tie at more claims than may be kept", 3, list(has(4), has(5, 2, 1, 0), has(6)), list(has(4, 1), has(5, 0), has(6, 2))},
		{"a tie of two of three", 4, list(has(1), has(2, 0), has(3, 1)), list(has(1, 2), has(2, 0, 3), has(3, 1))},
		{"the last one has the most", 5, list(has(1, 0), has(2), has(3, 1, 2)), list(has(1, 0, 4), has(2, 3), has(3, 1, 2))},
		{"to the fewest", 4, list(has(1), has(2, 0)), list(has(1, 1, 2), has(2, 0, 3))},
		{"to the fewest of those that may have more", 5, list(has(1, 0, 1), has(2), has(3, 2, 3)), list(has(1, 0, 1), has(2, 4), has(3, 2, 3))},
		{"what is dealt out stands between what is kept", 6, list(has(1, 5, 1), has(2, 4, 0)), list(has(1, 1, 2, 5), has(2, 0, 3, 4))},
	} {
		got, err := assign.Sticky(c.n, c.was...)
		dealt(t, c.what, got, err, c.now...)
		if m := model(c.n, c.was); !equal(m, c.now) {
			t.Errorf("%s: the model has %v", c.what, m)
		}
	}
}

// P11.2, P11.5: any claims, as the chapter's words have it.
func TestStickyByModel(t *testing.T) {
	rnd := rand.New(rand.NewSource(1))
	for range 20000 {
		n := []int{rnd.Intn(5), rnd.Intn(20), rnd.Intn(257)}[rnd.Intn(3)]
		members := someMembers(rnd, []int{3, 9, 64}[rnd.Intn(3)])
		was := someClaims(rnd, n, members)
		got, err := assign.Sticky(n, was...)
		fair(t, tell("Sticky ", n, was), n, members, got, err)
		if m := model(n, was); !equal(got, m) {
			t.Fatalf("Sticky(%d, %v): %v, not %v", n, was, got, m)
		}
	}
}

// P11.6: whatever is claimed by nobody or one, no assignment keeps more.
func TestStickiness(t *testing.T) {
	for _, c := range [][2]int{{0, 1}, {1, 1}, {3, 1}, {1, 2}, {2, 2}, {4, 2}, {5, 2}, {1, 3}, {2, 3}, {3, 3}, {4, 3}, {5, 3}, {3, 4}, {4, 4}} {
		n, m := c[0], c[1]
		var even [][]assign.Held
		all(n, m, func(owners []int) {
			if l := byOwners(m, owners); isEven(l) {
				even = append(even, l)
			}
		})
		all(n, m+1, func(owners []int) {
			was := byOwners(m, owners)
			best := 0
			for _, l := range even {
				best = max(best, countKept(was, l))
			}
			got, err := assign.Sticky(n, was...)
			fair(t, "Sticky", n, upTo(m), got, err)
			if kept := countKept(was, got); kept != best || assign.Kept(was, got) != best || assign.Moved(was, got) != n-best {
				t.Fatalf("Sticky(%d, %v): %v keeps %d (Kept %d, Moved %d), not %d", n, was, got, kept, assign.Kept(was, got), assign.Moved(was, got), best)
			}
		})
	}
}

func countKept(was, now []assign.Held) int {
	n := 0
	for _, a := range was {
		for _, b := range now {
			for _, p := range a.Parts {
				if a.Member == b.Member && slices.Contains(b.Parts, p) {
					n++
				}
			}
		}
	}
	return n
}

// P11.7: an assignment stays as it is.
func TestStability(t *testing.T) {
	all(5, 3, func(owners []int) {
		if l := byOwners(3, owners); isEven(l) {
			got, err := assign.Sticky(5, l...)
			dealt(t, "Sticky", got, err, l...)
		}
	})
	rnd := rand.New(rand.NewSource(2))
	for range 3000 {
		n := rnd.Intn(257)
		l := someAssignment(rnd, n, someMembers(rnd, 64))
		got, err := assign.Sticky(n, l...)
		dealt(t, "Sticky", got, err, l...)
	}
}

// P11.8, P11.9: one member goes, or one comes.
func TestLeaveAndJoin(t *testing.T) {
	rnd := rand.New(rand.NewSource(3))
	for range 5000 {
		n := []int{rnd.Intn(12), rnd.Intn(257)}[rnd.Intn(2)]
		was := someAssignment(rnd, n, someMembers(rnd, []int{5, 63}[rnd.Intn(2)]))
		if len(was) > 1 {
			i := rnd.Intn(len(was))
			others := slices.Delete(slices.Clone(was), i, i+1)
			now, err := assign.Sticky(n, others...)
			fair(t, "a member leaves", n, membersOf(others), now, err)
			if kept := countKept(others, now); kept != n-len(was[i].Parts) {
				t.Fatalf("%d leaves %v: %v", was[i].Member, was, now)
			}
		}
		i := rnd.Intn(len(was) + 1)
		from, to := 0, 65
		if i > 0 {
			from = was[i-1].Member
		}
		if i < len(was) {
			to = was[i].Member
		}
		if to-from < 2 {
			continue
		}
		with := slices.Insert(slices.Clone(was), i, has(from+1+rnd.Intn(to-from-1)))
		now, err := assign.Sticky(n, with...)
		fair(t, "a member joins", n, membersOf(with), now, err)
		for j, h := range now {
			for _, p := range h.Parts {
				if j != i && !slices.Contains(with[j].Parts, p) {
					t.Fatalf("%d joins %v: %v", with[i].Member, was, now)
				}
			}
		}
	}
}

// P11.3: the examples, and gaps between the members.
func TestRangeAndRound(t *testing.T) {
	got, err := assign.Range(5, 1, 2)
	dealt(t, "Range", got, err, has(1, 0, 1, 2), has(2, 3, 4))
	got, err = assign.Round(5, 1, 2)
	dealt(t, "Round", got, err, has(1, 0, 2, 4), has(2, 1, 3))
	got, err = assign.Range(8, 3, 17, 64)
	dealt(t, "Range", got, err, has(3, 0, 1, 2), has(17, 3, 4, 5), has(64, 6, 7))
	got, err = assign.Round(8, 3, 17, 64)
	dealt(t, "Round", got, err, has(3, 0, 3, 6), has(17, 1, 4, 7), has(64, 2, 5))
	got, err = assign.Range(2, 5, 6, 7)
	dealt(t, "Range", got, err, has(5, 0), has(6, 1), has(7))
	got, err = assign.Round(2, 5, 6, 7)
	dealt(t, "Round", got, err, has(5, 0), has(6, 1), has(7))
	for _, call := range []func(int, ...int) ([]assign.Held, api.Errno){assign.Range, assign.Round} {
		got, err = call(0, 9, 10)
		dealt(t, "of none", got, err, has(9), has(10))
		got, err = call(3, 9)
		dealt(t, "to one", got, err, has(9, 0, 1, 2))
	}
}

// P11.3, P11.5: each number of partitions, to each number of members.
func TestRangeAndRoundByDefinition(t *testing.T) {
	for n := range 257 {
		for m := 1; m <= 64; m++ {
			members := upTo(m)
			inRuns, byTurns := nothing(members...), nothing(members...)
			p := 0
			for i := range m {
				size := n / m
				if i < n%m {
					size++
				}
				for range size {
					inRuns[i].Parts = append(inRuns[i].Parts, p)
					p++
				}
			}
			for p := range n {
				byTurns[p%m].Parts = append(byTurns[p%m].Parts, p)
			}
			got, err := assign.Range(n, members...)
			dealt(t, tell("Range ", n, " ", m), got, err, inRuns...)
			want(t, "Check of Range", assign.Check(n, got...), api.OK)
			got, err = assign.Round(n, members...)
			dealt(t, tell("Round ", n, " ", m), got, err, byTurns...)
			want(t, "Check of Round", assign.Check(n, got...), api.OK)
		}
	}
}

// Rules 4 and 5: arguments stay as they are, and what is done to them or to a result changes no other result.
func TestDealtMemory(t *testing.T) {
	claims := [][]int{{4, 2, 0, 9, 4, 1}, {3, -1}, make([]int, 0, 4)}
	claims[2] = append(claims[2], 7, 2)
	was := list(has(1, claims[0]...), has(2, claims[1]...), assign.Held{Member: 5, Parts: claims[2][:1]})
	members := []int{1, 2, 5}
	calls := []func() ([]assign.Held, api.Errno){
		func() ([]assign.Held, api.Errno) { return assign.Sticky(8, was...) },
		func() ([]assign.Held, api.Errno) { return assign.Range(8, members...) },
		func() ([]assign.Held, api.Errno) { return assign.Round(8, members...) },
	}
	for i, call := range calls {
		first, _ := call()
		second, _ := call()
		before := tell(second)
		for j := range first {
			spoil(first[j].Parts)
		}
		_ = append(first[:1], has(9, 9))
		if again, err := call(); tell(second) != before || tell(again) != before || err != api.OK {
			t.Errorf("call %d: %v, %v, %d, not %s", i, second, again, err, before)
		}
	}
	if tell(claims, was, members) != "[[4 2 0 9 4 1] [3 -1] [7 2]] [{1 [4 2 0 9 4 1]} {2 [3 -1]} {5 [7]}] [1 2 5]" {
		t.Error("arguments are changed", claims, was, members)
	}
	now, _ := assign.Sticky(8, was...)
	before := tell(now)
	for _, l := range claims {
		spoil(l)
	}
	clear(was)
	if tell(now) != before {
		t.Error("a result has memory of its argument", now, before)
	}
}

// spoil writes into a list, and behind it.
func spoil(l []int) {
	for i := range l {
		l[i] = 77
	}
	l = l[:cap(l)]
	for i := range l {
		l[i] = 78
	}
}

// No two lists of one result share memory, behind their ends either.
func TestListsApart(t *testing.T) {
	was := list(has(1, 0, 1, 2, 3), has(2), has(3, 7))
	for what, call := range map[string]func() []assign.Held{
		"Sticky": func() []assign.Held { l, _ := assign.Sticky(9, was...); return l },
		"Range":  func() []assign.Held { l, _ := assign.Range(9, 1, 2, 3); return l },
		"Round":  func() []assign.Held { l, _ := assign.Round(9, 1, 2, 3); return l },
		"Copy":   func() []assign.Held { return assign.Copy(was) },
	} {
		for i := range 3 {
			l, as := call(), call()
			spoil(l[i].Parts)
			for j := range 3 {
				if j != i && !slices.Equal(l[j].Parts, as[j].Parts) {
					t.Errorf("%s: what is written into list %d is in list %d", what, i, j)
				}
			}
		}
	}
}
