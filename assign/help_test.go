package assign_test

import (
	"fmt"
	"math"
	"math/rand"
	"slices"
	"testing"

	"towpath/api"
	"towpath/assign"
)

// The calls keep the signatures that the chapter lists.
var (
	_ func(int, ...assign.Held) ([]assign.Held, api.Errno) = assign.Sticky
	_ func(int, ...int) ([]assign.Held, api.Errno)         = assign.Range
	_ func(int, ...int) ([]assign.Held, api.Errno)         = assign.Round
	_ func(int, ...assign.Held) api.Errno                  = assign.Check
	_ func(int, ...assign.Held) int                        = assign.Owner
	_ func(was, now []assign.Held) int                     = assign.Kept
	_ func(was, now []assign.Held) int                     = assign.Moved
	_ func(a, b []assign.Held) bool                        = assign.Same
	_ func([]assign.Held) []assign.Held                    = assign.Copy
	_ struct {
		Member int
		Parts  []int
	} = assign.Held{}
)

func has(member int, parts ...int) assign.Held {
	return assign.Held{Member: member, Parts: parts}
}

func list(l ...assign.Held) []assign.Held { return l }

func want(t *testing.T, what string, got, err api.Errno) {
	t.Helper()
	if got != err {
		t.Errorf("%s: %d, not %d", what, got, err)
	}
}

// equal holds lists against each other without the package.
func equal(a, b []assign.Held) bool {
	return slices.EqualFunc(a, b, func(x, y assign.Held) bool {
		return x.Member == y.Member && slices.Equal(x.Parts, y.Parts)
	})
}

func dealt(t *testing.T, what string, got []assign.Held, err api.Errno, want ...assign.Held) {
	t.Helper()
	if err != api.OK || !equal(got, want) {
		t.Errorf("%s: %v, %d, not %v", what, got, err, want)
	}
}

func refused(t *testing.T, what string, got []assign.Held, err, want api.Errno) {
	t.Helper()
	if err != want || len(got) != 0 {
		t.Errorf("%s: %v, %d, not %d", what, got, err, want)
	}
}

// upTo are the numbers from 1 to n.
func upTo(n int) []int {
	var l []int
	for i := range n {
		l = append(l, i+1)
	}
	return l
}

// nothing is what members have that have nothing.
func nothing(members ...int) []assign.Held {
	var l []assign.Held
	for _, m := range members {
		l = append(l, has(m))
	}
	return l
}

// isComplete, isEven: the chapter's words for an assignment.
func isComplete(n int, l []assign.Held) bool {
	times := map[int]int{}
	for i, h := range l {
		if i > 0 && h.Member <= l[i-1].Member {
			return false
		}
		for j, p := range h.Parts {
			times[p]++
			if p < 0 || p >= n || times[p] > 1 || j > 0 && p <= h.Parts[j-1] {
				return false
			}
		}
	}
	return len(times) == n
}

func isEven(l []assign.Held) bool {
	for _, a := range l {
		for _, b := range l {
			if len(a.Parts) >= len(b.Parts)+2 {
				return false
			}
		}
	}
	return true
}

func fair(t *testing.T, what string, n int, members []int, l []assign.Held, err api.Errno) {
	t.Helper()
	if err != api.OK || !isComplete(n, l) || !isEven(l) || !slices.Equal(membersOf(l), members) || assign.Check(n, l...) != api.OK {
		t.Fatalf("%s: %v, %d", what, l, err)
	}
}

func membersOf(l []assign.Held) []int {
	var members []int
	for _, h := range l {
		members = append(members, h.Member)
	}
	return members
}

// someMembers are at least one, in increasing order.
func someMembers(rnd *rand.Rand, most int) []int {
	l := rnd.Perm(64)[:1+rnd.Intn(most)]
	slices.Sort(l)
	for i := range l {
		l[i]++
	}
	return l
}

// someClaims are claims of any numbers about 0 to n, in any order.
func someClaims(rnd *rand.Rand, n int, members []int) []assign.Held {
	l := nothing(members...)
	for i := range l {
		for range rnd.Intn(2 + 2*n/len(l)) {
			l[i].Parts = append(l[i].Parts, rnd.Intn(n+3)-1)
		}
		if rnd.Intn(6) == 0 {
			l[i].Parts = append(l[i].Parts, math.MinInt, -n, math.MaxInt, 1<<32)
		}
	}
	return l
}

// someAssignment is complete and even, but otherwise any.
func someAssignment(rnd *rand.Rand, n int, members []int) []assign.Held {
	l := nothing(members...)
	order := rnd.Perm(len(members))
	for i, p := range rnd.Perm(n) {
		h := &l[order[i%len(order)]]
		h.Parts = append(h.Parts, p)
	}
	for _, h := range l {
		slices.Sort(h.Parts)
	}
	return l
}

// model deals out as the chapter says it, by sets of numbers.
func model(n int, was []assign.Held) []assign.Held {
	m := len(was)
	claims := make([][]int, m)
	taken := map[int]int{}
	for i, h := range was {
		for _, p := range h.Parts {
			if _, before := taken[p]; !before && p >= 0 && p < n {
				taken[p] = i
				claims[i] = append(claims[i], p)
			}
		}
		slices.Sort(claims[i])
	}
	most := make([]int, m)
	for i := range was {
		ahead := 0 // members that come before this one
		for j := range was {
			if len(claims[j]) > len(claims[i]) || len(claims[j]) == len(claims[i]) && j < i {
				ahead++
			}
		}
		most[i] = n / m
		if ahead < n%m {
			most[i]++
		}
	}
	l := make([]assign.Held, m)
	kept := map[int]int{}
	for i := range was {
		l[i].Member = was[i].Member
		for _, p := range claims[i][:min(len(claims[i]), most[i])] {
			l[i].Parts = append(l[i].Parts, p)
			kept[p]++
		}
	}
	for p := range n {
		if kept[p] > 0 {
			continue
		}
		to := -1
		for i := m - 1; i >= 0; i-- {
			if len(l[i].Parts) < most[i] && (to < 0 || len(l[i].Parts) <= len(l[to].Parts)) {
				to = i
			}
		}
		l[to].Parts = append(l[to].Parts, p)
	}
	for i := range l {
		slices.Sort(l[i].Parts)
	}
	return l
}

// all calls f with each choice of one of k for each of n partitions.
func all(n, k int, f func([]int)) {
	l := make([]int, n)
	for {
		f(l)
		i := 0
		for i < n && l[i] == k-1 {
			l[i] = 0
			i++
		}
		if i == n {
			return
		}
		l[i]++
	}
}

// byOwners gives each partition to the member with that index; to one that is not there, to nobody.
func byOwners(m int, owners []int) []assign.Held {
	l := nothing(upTo(m)...)
	for p, i := range owners {
		if i < m {
			l[i].Parts = append(l[i].Parts, p)
		}
	}
	return l
}

func tell(l ...any) string { return fmt.Sprint(l...) }
