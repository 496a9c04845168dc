package group_test

import (
	"encoding/binary"
	"fmt"
	"math"
	"math/rand"
	"slices"
	"testing"

	"towpath/api"
	"towpath/assign"
	"towpath/group"
)

func refused(t *testing.T, what string, b []byte, c group.Config) {
	t.Helper()
	if g, err := group.Load(b, c, 0); g != nil || err != api.ErrForm {
		t.Errorf("%s: Load(%x): %v, %d", what, b, g, err)
	}
}

func bytesAre(t *testing.T, what string, g *group.Group, body ...byte) {
	t.Helper()
	if got, want := g.Bytes(), sealed(body); string(got) != string(want) {
		t.Errorf("%s: %x, not %x", what, got, want)
	}
}

// P12.7: the bytes of a group in each state, with and without members.
func TestBytes(t *testing.T) {
	g := made(t, usual)
	bytesAre(t, "new", g, 0, 0)
	joins(t, g, 7, 0, 0, told(1))
	bytesAre(t, "stable", g, 1, 1, 7, 3, 0, 1, 2)
	joins(t, g, 64, 0, 0, busy)
	bytesAre(t, "calling", g, 1, 1, 7, 3, 0, 1, 2)
	want(t, "Leave", g.Leave(64, 0), api.OK)
	bytesAre(t, "calling", g, 1, 1, 7, 3, 0, 1, 2)
	joins(t, g, 64, 0, 0, busy)
	joins(t, g, 7, 0, 0, told(2))
	bytesAre(t, "stable", g, 2, 2, 7, 2, 0, 2, 64, 1, 1)
	want(t, "Leave", g.Leave(64, 0), api.OK)
	bytesAre(t, "calling, one has left", g, 2, 2, 7, 2, 0, 2, 64, 1, 1)
	want(t, "Leave", g.Leave(7, 0), api.OK)
	bytesAre(t, "empty", g, 2, 0)

	c := group.Config{Parts: 256, Session: 1, Rebalance: 1}
	g = stable(t, c, 0, 1)
	b := g.Bytes()
	if want := append(body(1, 1, 1, 256), numbers(256)...); string(b) != string(sealed(want)) {
		t.Errorf("256 partitions: %x", b)
	}
	loaded(t, "256 partitions", b, c, 0)
	g = loaded(t, "a great generation", encoded(lastGeneration, has(3, 0, 1, 2)), usual, 0)
	bytesAre(t, "a great generation", g, 0xff, 0xff, 0xff, 0xff, 7, 1, 3, 3, 0, 1, 2)
}

// numbers encodes those from 0 on.
func numbers(n int) []byte {
	var b []byte
	for i := range n {
		b = append(b, body(uint64(i))...)
	}
	return b
}

// P12.7: what is loaded has the generation and the assignment, and its members, told and heard of at that time.
func TestLoad(t *testing.T) {
	for state, g := range someGroups(t) {
		for _, now := range []int64{0, 7, api.MaxTime - 200} {
			x := loaded(t, state, g.Bytes(), usual, now)
			deals(t, state, x, g.Dealing()...)
			if len(g.Dealing()) == 0 {
				stands(t, state, x, group.Empty, g.Generation())
				continue
			}
			stands(t, state, x, group.Stable, g.Generation(), 1, 2, 3)
			for i, m := range []int{1, 2, 3} {
				want(t, "Beat", x.Beat(m, x.Generation(), now), api.OK)
				want(t, "May", x.May(m, x.Generation(), i), api.OK)
				joins(t, x, m, x.Generation(), now, told(x.Generation()))
			}
			gone(t, x, now+100)
			gone(t, x, now+101, 1, 2, 3)
			x = loaded(t, state, g.Bytes(), usual, now)
			joins(t, x, 2, x.Generation()-1, 0, busy) // it was told
			gone(t, x, now+49)
			if g.Generation() < lastGeneration {
				gone(t, x, now+50, 1, 3)
			}
		}
	}
	g := stable(t, usual, 0, 1, 2)
	want(t, "Leave", g.Leave(1, 0), api.OK)
	x := loaded(t, "one that left is there again", g.Bytes(), usual, 0)
	stands(t, "one that left is there again", x, group.Stable, 2, 1, 2)
	stands(t, "the first one", g, group.Calling, 2, 2)

	b := g.Bytes()
	x = loaded(t, "bytes that are cleared", slices.Clone(b), usual, 0)
	y, _ := group.Load(b, usual, 0)
	clear(b)
	unchanged(t, "bytes that are cleared", y, x, 100, 101)
	if b[0] != 0 {
		t.Error("b")
	}
}

// P12.7: without members, any number of partitions, and any generation up to the last one.
func TestLoadWithoutMembers(t *testing.T) {
	for _, parts := range []int{0, 1, 3, 256} {
		c := group.Config{Parts: parts, Session: 9, Rebalance: 9}
		for _, generation := range []int{0, 1, 300, lastGeneration - 1, lastGeneration} {
			g := loaded(t, "nobody", encoded(generation), c, 5)
			stands(t, "nobody", g, group.Empty, generation)
			deals(t, "nobody", g)
			if generation < lastGeneration {
				joins(t, g, 3, 0, 0, told(generation+1))
				gone(t, g, 14)
				gone(t, g, 15, 3)
			} else {
				joins(t, g, 3, 0, 0, exhausted)
			}
		}
		refused(t, "a generation beyond", encoded(lastGeneration+1), c)
	}
}

// A config or a time that may not be, ahead of the form of the bytes.
func TestLoadArguments(t *testing.T) {
	good := encoded(2, has(1, 0, 1), has(2, 2))
	for _, b := range [][]byte{good, nil, []byte("no"), encoded(0, has(1))} {
		for _, now := range badTimes {
			if g, err := group.Load(b, usual, now); g != nil || err != api.ErrArg {
				t.Errorf("Load(%x) at %d: %v, %d", b, now, g, err)
			}
		}
		for _, c := range []group.Config{{}, {Parts: -1, Session: 1, Rebalance: 1}, {Parts: 257, Session: 1, Rebalance: 1}, {Parts: 3, Rebalance: 1}, {Parts: 3, Session: 1}, {Parts: 3, Session: api.MaxTime + 1, Rebalance: 1}, {Parts: 3, Session: 1, Rebalance: api.MaxTime + 1}} {
			if g, err := group.Load(b, c, 0); g != nil || err != api.ErrArg {
				t.Errorf("Load(%x) for %v: %v, %d", b, c, g, err)
			}
		}
	}
	loaded(t, "at the last time", good, usual, api.MaxTime)
	for _, parts := range []int{0, 1, 2, 4, 256} {
		refused(t, "another number of partitions", good, group.Config{Parts: parts, Session: 1, Rebalance: 1})
	}
}

// P12.7: each fault that the chapter names, by itself.
func TestLoadFaults(t *testing.T) {
	for _, c := range []struct {
		what       string
		generation int
		l          []assign.Held
		ok         bool
	}{
		{"good", 2, []assign.Held{has(1, 0, 1), has(2, 2)}, true},
		{"good", 1, []assign.Held{has(64, 0, 1, 2)}, true},
		{"good", lastGeneration, []assign.Held{has(1), has(5, 0), has(9, 1), has(10, 2)}, true},
		{"generation 0 with members", 0, []assign.Held{has(1, 0, 1), has(2, 2)}, false},
		{"beyond the last generation", lastGeneration + 1, []assign.Held{has(1, 0, 1), has(2, 2)}, false},
		{"far beyond", 1<<32 + 2, []assign.Held{has(1, 0, 1), has(2, 2)}, false},
		{"farther", -1, []assign.Held{has(1, 0, 1), has(2, 2)}, false},
		{"as far as can be, and 2", math.MinInt + 2, []assign.Held{has(1, 0, 1), has(2, 2)}, false},
		{"equal members", 2, []assign.Held{has(2, 0, 1), has(2, 2)}, false},
		{"falling members", 2, []assign.Held{has(2, 0, 1), has(1, 2)}, false},
		{"member 0", 2, []assign.Held{has(0, 0, 1), has(2, 2)}, false},
		{"member 65", 2, []assign.Held{has(1, 0, 1), has(65, 2)}, false},
		{"a great member", 2, []assign.Held{has(1, 0, 1), has(1<<32+2, 2)}, false},
		{"a member below 0", 2, []assign.Held{has(-1, 0, 1), has(2, 2)}, false},
		{"lacks one", 2, []assign.Held{has(1, 0), has(2, 2)}, false},
		{"lacks the last one", 2, []assign.Held{has(1, 0), has(2, 1)}, false},
		{"lacks all", 2, []assign.Held{has(1)}, false},
		{"one twice", 2, []assign.Held{has(1, 0, 1), has(2, 1, 2)}, false},
		{"one twice within a member", 2, []assign.Held{has(1, 0, 0, 1), has(2, 2)}, false},
		{"one that is none", 2, []assign.Held{has(1, 0, 1), has(2, 2, 3)}, false},
		{"a great one", 2, []assign.Held{has(1, 0, 1), has(2, 1<<32+2)}, false},
		{"one below 0", 2, []assign.Held{has(1, 0, 1), has(2, -1)}, false},
		{"not sorted", 2, []assign.Held{has(1, 1, 0), has(2, 2)}, false},
		{"not even", 2, []assign.Held{has(1, 0, 1, 2), has(2)}, false},
		{"not even", 2, []assign.Held{has(1), has(2, 0, 1), has(3, 2)}, false},
	} {
		b := encoded(c.generation, c.l...)
		if !c.ok {
			refused(t, c.what, b, usual)
			continue
		}
		g := loaded(t, c.what, b, usual, 0)
		stands(t, c.what, g, group.Stable, c.generation, g.Members()...)
		deals(t, c.what, g, c.l...)
	}
	most := group.Config{Parts: 256, Session: 1, Rebalance: 1}
	l, _ := assign.Round(256, func() []int {
		var l []int
		for i := range 64 {
			l = append(l, i+1)
		}
		return l
	}()...)
	loaded(t, "64 members", encoded(9, l...), most, 0)
	refused(t, "65 members", encoded(9, append(l, has(65))...), most)
	refused(t, "a member more", encoded(9, append(l, has(64))...), most)
	l[0].Parts = append(l[0].Parts, 256)
	refused(t, "257 partitions", encoded(9, l...), most)
}

// Bytes that are cut off anywhere, go on behind the end, or have a byte changed.
func TestLoadSpoilt(t *testing.T) {
	for _, l := range [][]assign.Held{nil, {has(1, 0, 1), has(2, 2)}, {has(1), has(5, 0), has(9, 1), has(64, 2)}} {
		b := encoded(300, l...)
		loaded(t, "whole", b, usual, 0)
		for i := range b {
			refused(t, "cut off", b[:i], usual)
			for _, bit := range []byte{1, 2, 0x10, 0x80, 0xff} {
				c := slices.Clone(b)
				c[i] ^= bit
				refused(t, "changed", c, usual)
			}
		}
		for _, more := range [][]byte{{0}, {1}, {0, 0, 0, 0}, b} {
			refused(t, "goes on", slices.Concat(b, more), usual)
		}
		body := b[4 : len(b)-4]
		for i := range body {
			refused(t, "a body that is cut off", sealed(body[:i]), usual)
		}
		refused(t, "a body that goes on", sealed(append(slices.Clone(body), 0)), usual)
		refused(t, "a body without a frame", body, usual)
	}
	refused(t, "nil", nil, usual)
	refused(t, "text", []byte("no"), usual)
}

// Rule 8: numbers in another form than their own, great ones, and counts of more or less than there is.
func TestLoadForms(t *testing.T) {
	good := []byte{2, 2, 1, 2, 0, 1, 2, 1, 2}
	loaded(t, "good", sealed(good), usual, 0)
	for i := range good {
		refused(t, "a longer form", sealed(slices.Concat(good[:i], []byte{good[i] | 0x80, 0}, good[i+1:])), usual)
		refused(t, "more than 64 bits", sealed(slices.Concat(good[:i], binary.AppendUvarint(nil, math.MaxUint64)[:9], []byte{2}, good[i+1:])), usual)
		for _, n := range []uint64{1<<31 + uint64(good[i]), 1<<32 + uint64(good[i]), 1 << 62, math.MaxInt64, 1 << 63, 1<<63 + uint64(good[i]), math.MaxUint64} {
			refused(t, fmt.Sprintf("number %d is %d", i, n), sealed(slices.Concat(good[:i], binary.AppendUvarint(nil, n), good[i+1:])), usual)
			refused(t, fmt.Sprintf("number %d is %d, and the last one", i, n), sealed(slices.Concat(good[:i], binary.AppendUvarint(nil, n))), usual)
		}
	}
	for _, n := range []uint64{1, 3, 64, 65, 66} {
		refused(t, "another count of members", sealed(slices.Concat(good[:1], binary.AppendUvarint(nil, n), good[2:])), usual)
	}
	c := group.Config{Parts: 256, Session: 1, Rebalance: 1}
	counts := append(body(1, 1, 7, 256), numbers(256)...)
	loaded(t, "256 partitions", sealed(counts), c, 0)
	for _, n := range []uint64{255, 257, 258, 1 << 32, math.MaxUint64} {
		refused(t, "not as many as there are", sealed(append(body(1, 1, 7, n), numbers(256)...)), c)
	}
	c.Parts = 0
	var members []uint64
	for m := range uint64(64) {
		members = append(members, m+1, 0)
	}
	loaded(t, "64 members", sealed(append(body(1, 64), body(members...)...)), c, 0)
	for _, n := range []uint64{63, 65, 66, 1 << 32, math.MaxUint64} {
		refused(t, "not as many as there are", sealed(append(body(1, n), body(members...)...)), c)
	}
	refused(t, "nobody, and more", sealed([]byte{2, 0, 1, 2, 0, 1, 2, 1, 2}), usual)
	for _, n := range []uint64{0, 1, 3, 256, 257, 258} {
		refused(t, "another count of partitions", sealed(slices.Concat(good[:3], binary.AppendUvarint(nil, n), good[4:])), usual)
	}
}

// Rule 8: whatever loads is what it is encoded to.
func TestLoadAny(t *testing.T) {
	rnd := rand.New(rand.NewSource(5))
	fit := 0
	for range 200000 {
		c := group.Config{Parts: rnd.Intn(4), Session: 1, Rebalance: 1}
		b := make([]byte, 2+rnd.Intn(9))
		for i := range b {
			b[i] = byte([]int{0, 0, 1, 1, 2, 2, 3, 4, 128, rnd.Intn(256)}[rnd.Intn(10)])
		}
		b = sealed(b)
		g, err := group.Load(b, c, 3)
		if err != api.OK {
			refused(t, "any", b, c)
			continue
		}
		fit++
		if string(g.Bytes()) != string(b) || len(g.Dealing()) > 0 && assign.Check(c.Parts, g.Dealing()...) != api.OK {
			t.Fatalf("%x: %x, %v", b, g.Bytes(), g.Dealing())
		}
	}
	if fit < 1000 {
		t.Error("too few to tell", fit)
	}
}
