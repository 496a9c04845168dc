package assign

import (
	"slices"

	"towpath/api"
)

// Check tells whether each partition stands in l once, and l is even.
func Check(n int, l ...Held) api.Errno {
	if err := valid(n, membersOf(l)); err != api.OK {
		return err
	}
	if !complete(n, l) {
		return api.ErrForm
	}
	if !balanced(l) {
		return api.ErrOrder
	}
	return api.OK
}

// complete reports whether each of n partitions stands in l once, no other does, and those of each member increase.
func complete(n int, l []Held) bool {
	dealt := make([]bool, n)
	count := 0
	for _, h := range l {
		last := -1
		for _, p := range h.Parts {
			if p <= last || p >= n || dealt[p] {
				return false
			}
			last, dealt[p] = p, true
			count++
		}
	}
	return count == n
}

func balanced(l []Held) bool {
	fewest, most := len(l[0].Parts), len(l[0].Parts)
	for _, h := range l {
		fewest, most = min(fewest, len(h.Parts)), max(most, len(h.Parts))
	}
	return most-fewest <= 1
}

// Owner returns the first member that has a partition, or 0.
func Owner(part int, l ...Held) int {
	for _, h := range l {
		if slices.Contains(h.Parts, part) {
			return h.Member
		}
	}
	return 0
}

// pair says that a member has a partition.
type pair struct{ member, part int }

// pairs returns what l says, each pair once, with how often it stands there.
func pairs(l []Held) map[pair]int {
	m := map[pair]int{}
	for _, h := range l {
		for _, p := range h.Parts {
			m[pair{h.Member, p}]++
		}
	}
	return m
}

// Kept returns how many pairs stand in both.
func Kept(was, now []Held) int {
	had := pairs(was)
	n := 0
	for p := range pairs(now) {
		if had[p] > 0 {
			n++
		}
	}
	return n
}

// Moved returns how many pairs stand in now alone.
func Moved(was, now []Held) int {
	return len(pairs(now)) - Kept(was, now)
}

// Same reports whether two lists say the same, in the same order.
func Same(a, b []Held) bool {
	return slices.EqualFunc(a, b, func(x, y Held) bool {
		return x.Member == y.Member && slices.Equal(x.Parts, y.Parts)
	})
}

// Copy returns a list that goes on by itself.
func Copy(l []Held) []Held {
	c := without(membersOf(l))
	for i, h := range l {
		c[i].Parts = slices.Clone(h.Parts)
	}
	return c
}
