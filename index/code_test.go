package index_test

import (
	"encoding/binary"
	"fmt"
	"math"
	"math/rand"
	"slices"
	"testing"

	"towpath/api"
	"towpath/index"
)

// P5.4: the bytes of the chapter's example, of an empty index, and of one that was cut.
func TestBytes(t *testing.T) {
	x := made(t, 100)
	bytesAre(t, "New", x, []byte{100, 0, 1, 1, 1})
	x.Note(0, 0, 5)
	x.Note(7, 60, 9)
	x.Note(9, 130, 3)
	bytesAre(t, "the example", x, []byte{100, 2, 0, 0, 1, 9, 0x82, 1, 18, 18, 0x84, 2, 18})
	x.Note(300, 150, 10)
	bytesAre(t, "a batch without an entry", x, []byte{100, 2, 0, 0, 1, 9, 0x82, 1, 18, 0xd8, 4, 0xac, 2, 20})
	x.Cut(9)
	bytesAre(t, "Cut(9)", x, []byte{100, 1, 0, 0, 1, 0, 0, 20})
	x.Cut(0)
	bytesAre(t, "Cut(0)", x, []byte{100, 0, 1, 1, 20})
}

func bytesAre(t *testing.T, what string, x *index.Index, body []byte) {
	t.Helper()
	if got, want := x.Bytes(), sealed(body); string(got) != string(want) {
		t.Errorf("%s: %x, not %x", what, got, want)
	}
}

func refused(t *testing.T, what string, b []byte) {
	t.Helper()
	if x, err := index.Load(b); x != nil || err != api.ErrForm {
		t.Errorf("%s: Load(%x): %v, %d", what, b, x, err)
	}
}

func loaded(t *testing.T, what string, b []byte) *index.Index {
	t.Helper()
	x, err := index.Load(b)
	if err != api.OK || string(x.Bytes()) != string(b) {
		t.Fatalf("%s: Load(%x): %d, %x", what, b, err, x.Bytes())
	}
	return x
}

// P5.7: what is loaded behaves as what was there, at once and for all later calls; and the two know nothing of each other.
func TestRoundTrip(t *testing.T) {
	rnd := rand.New(rand.NewSource(7))
	for range 300 {
		gap := 1 + rnd.Intn(30)
		x, m := made(t, gap), &model{gap: gap}
		for range rnd.Intn(40) {
			act(t, rnd, x, m)
		}
		b := x.Bytes()
		y := loaded(t, "Load", b)
		same(t, "Load", x, y)
		for range 20 {
			act(t, rnd, y, m)
		}
		if string(x.Bytes()) != string(b) {
			t.Error("the first one changed")
		}
		if t.Failed() {
			return
		}
	}
}

// P5.4: bytes that are cut off anywhere, go on behind the end, or have a byte changed.
func TestLoadSpoilt(t *testing.T) {
	for _, x := range []*index.Index{made(t, 1), cuttable(t)} {
		b := x.Bytes()
		for i := range b {
			refused(t, "cut off", b[:i])
			for _, bit := range []byte{1, 2, 0x10, 0x80, 0xff} {
				c := slices.Clone(b)
				c[i] ^= bit
				refused(t, "changed", c)
			}
		}
		for _, more := range [][]byte{{0}, {1}, {0, 0, 0, 0}, b} {
			refused(t, "goes on", slices.Concat(b, more))
		}
		body := b[4 : len(b)-4]
		for i := range body {
			refused(t, "a body that is cut off", sealed(body[:i]))
		}
		refused(t, "a body that goes on", sealed(append(slices.Clone(body), 0)))
		refused(t, "a body without a frame", body)
	}
	refused(t, "nil", nil)
	refused(t, "empty", []byte{})
	refused(t, "text", []byte("no"))
}

// Rule 8: numbers in another form than their own, and counts of more than there is.
func TestLoadForms(t *testing.T) {
	loaded(t, "an entry", sealed([]byte{5, 1, 0, 0, 1, 0, 0, 0}))
	for i := range 8 {
		body := []byte{5, 1, 0, 0, 1, 0, 0, 0}
		long := slices.Concat(body[:i], []byte{body[i] | 0x80, 0}, body[i+1:])
		refused(t, "a longer form", sealed(long))
	}
	for _, n := range []uint64{0, 2, 3, 1 << 20, 1 << 32, math.MaxInt64, math.MaxUint64} {
		body := slices.Concat([]byte{5}, binary.AppendUvarint(nil, n), []byte{0, 0, 1, 0, 0, 0})
		refused(t, "another count", sealed(body))
	}
	for _, wide := range []uint64{1 << 41, 1<<63 - 1, 1 << 63, math.MaxUint64} { // sums that come back to a small number
		n := binary.AppendUvarint(nil, wide)
		back := binary.AppendUvarint(nil, 7-wide)
		refused(t, "offsets that wrap", sealed(slices.Concat([]byte{5, 3}, []byte{0, 0, 1}, n, []byte{9, 2}, back, []byte{9, 2}, []byte{14, 36, 2})))
		refused(t, "places that wrap", sealed(slices.Concat([]byte{5, 3}, []byte{0, 0, 1, 3}, n, []byte{2, 4}, back, []byte{2}, []byte{14, 14, 2})))
		refused(t, "a gap that is too great", sealed(slices.Concat(n, []byte{0, 1, 1, 1})))
	}
}

// P5.4: states at the limits, and the same one beyond.
func TestLoadLimits(t *testing.T) {
	one := func(e index.Entry, offset, place, latest int64) state {
		return state{5, []index.Entry{e}, offset, place, latest}
	}
	two := func(a, b index.Entry) state {
		return state{5, []index.Entry{a, b}, b.Offset, int64(b.Place), max(a.Before, b.Before, 0)}
	}
	first := index.Entry{Before: -1}
	for _, c := range []struct {
		what string
		state
		ok bool
	}{
		{"a gap of 1", state{1, nil, -1, -1, -1}, true},
		{"a gap of 0", state{0, nil, -1, -1, -1}, false},
		{"a gap below 0", state{-1, nil, -1, -1, -1}, false},
		{"the greatest gap", state{api.MaxDisk, nil, -1, -1, -1}, true},
		{"one more", state{api.MaxDisk + 1, nil, -1, -1, -1}, false},
		{"all cut", state{5, nil, -1, -1, 0}, true},
		{"all cut at the last time", state{5, nil, -1, -1, api.MaxTime}, true},
		{"a time beyond it", state{5, nil, -1, -1, api.MaxTime + 1}, false},
		{"a time below -1", state{5, nil, -1, -1, -2}, false},
		{"a place without an entry", state{5, nil, -1, 0, 0}, false},
		{"an offset without an entry", state{5, nil, 0, -1, 0}, false},
		{"a batch without an entry", state{5, nil, 0, 0, 0}, false},
		{"below -1", state{5, nil, -2, -1, 0}, false},
		{"below -1", state{5, nil, -1, -2, 0}, false},

		{"the least entry", one(first, 0, 0, 0), true},
		{"an entry without a time", one(first, 0, 0, -1), false},
		{"an entry behind a cut", one(index.Entry{0, 0, 9}, 0, 0, 9), true},
		{"a latest time below that", one(index.Entry{0, 0, 9}, 0, 0, 8), false},
		{"a Before below -1", one(index.Entry{0, 0, -2}, 0, 0, 9), false},
		{"the greatest entry", one(index.Entry{api.MaxOffset, api.MaxDisk, api.MaxTime}, api.MaxOffset, api.MaxDisk, api.MaxTime), true},
		{"an offset beyond it", one(index.Entry{api.MaxOffset + 1, 0, 0}, api.MaxOffset+1, 0, 0), false},
		{"a place beyond it", one(index.Entry{0, api.MaxDisk + 1, 0}, 0, api.MaxDisk+1, 0), false},
		{"a Before beyond it", one(index.Entry{0, 0, api.MaxTime + 1}, 0, 0, api.MaxTime+1), false},
		{"an offset below 0", one(index.Entry{-1, 0, 0}, 0, 0, 0), false},
		{"a place below 0", one(index.Entry{0, -1, 0}, 0, 0, 0), false},
		{"the last batch behind the entry", one(first, 1, 1, 0), true},
		{"the last batch just below the gap", one(first, 9, 4, 0), true},
		{"the last batch at the gap", one(first, 9, 5, 0), false},
		{"its offset at the limit", one(first, api.MaxOffset, 4, 0), true},
		{"its offset beyond it", one(first, api.MaxOffset+1, 4, 0), false},
		{"the last batch at the entry's offset", one(first, 0, 1, 0), false},
		{"the last batch at the entry's place", one(first, 1, 0, 0), false},
		{"no last batch", one(first, -1, -1, 0), false},
		{"the last batch ahead of the entry", one(index.Entry{3, 3, -1}, 2, 2, 0), false},

		{"an entry at the gap", two(first, index.Entry{1, 5, 0}), true},
		{"an entry below the gap", two(first, index.Entry{1, 4, 0}), false},
		{"an entry at the same offset", two(first, index.Entry{0, 5, 0}), false},
		{"an entry at a lesser offset", two(index.Entry{2, 0, -1}, index.Entry{1, 5, 0}), false},
		{"a second entry ahead of all times", two(first, index.Entry{1, 5, -1}), false},
		{"times that stay", two(index.Entry{0, 0, 7}, index.Entry{1, 5, 7}), true},
		{"times that fall", two(index.Entry{0, 0, 7}, index.Entry{1, 5, 6}), false},
		{"a time at the limit", two(first, index.Entry{1, 5, api.MaxTime}), true},
		{"a time beyond it", two(first, index.Entry{1, 5, api.MaxTime + 1}), false},
	} {
		b := sealed(c.body())
		if c.ok {
			loaded(t, c.what, b)
		} else {
			refused(t, c.what, b)
		}
	}
}

// few are the numbers of a small world, in which all indexes can be listed.
const (
	fewOffsets = 3
	fewPlaces  = 4
	fewTimes   = 2
)

// reachable lists the bytes of all indexes of the small world that notes and cuts make.
func reachable(t *testing.T, gap int) map[string]bool {
	type call func(x *index.Index)
	var calls []call
	for offset := range int64(fewOffsets) {
		calls = append(calls, func(x *index.Index) { x.Cut(offset) })
		for place := range fewPlaces {
			for time := range int64(fewTimes) {
				calls = append(calls, func(x *index.Index) { x.Note(offset, place, time) })
			}
		}
	}
	seen := map[string]bool{string(made(t, gap).Bytes()): true}
	for work := [][]call{nil}; len(work) > 0; work = work[1:] {
		for _, c := range calls {
			x := made(t, gap)
			done := append(slices.Clone(work[0]), c)
			for _, do := range done {
				do(x)
			}
			if b := string(x.Bytes()); !seen[b] {
				seen[b] = true
				work = append(work, done)
			}
		}
	}
	return seen
}

// candidates goes through all states of the small world with up to two entries, whether they may be or not.
func candidates(gap int, yield func(state)) {
	var ends []state
	for offset := int64(-1); offset < fewOffsets; offset++ {
		for place := int64(-1); place < fewPlaces; place++ {
			for latest := int64(-1); latest < fewTimes; latest++ {
				ends = append(ends, state{gap, nil, offset, place, latest})
			}
		}
	}
	var one []index.Entry
	for offset := range int64(fewOffsets) {
		for place := range fewPlaces {
			for before := int64(-1); before < fewTimes; before++ {
				one = append(one, index.Entry{Offset: offset, Place: place, Before: before})
			}
		}
	}
	for _, s := range ends {
		yield(s)
		for _, a := range one {
			s.entries = []index.Entry{a}
			yield(s)
			for _, b := range one {
				s.entries = []index.Entry{a, b}
				yield(s)
			}
		}
	}
}

// P5.4: of all states of the small world, those load that some notes and cuts make, and no others.
func TestLoadAll(t *testing.T) {
	for gap := 1; gap <= fewPlaces; gap++ {
		there := reachable(t, gap)
		n := 0
		candidates(gap, func(s state) {
			b := sealed(s.body())
			x, err := index.Load(b)
			switch {
			case there[string(b)] && (err != api.OK || string(x.Bytes()) != string(b)):
				t.Errorf("%v: %d, %v", s, err, x.All())
			case !there[string(b)] && (err != api.ErrForm || x != nil):
				t.Errorf("%v: %d, though nothing makes it", s, err)
			}
			if err == api.OK {
				n++
			}
		})
		few := 0
		for b := range there {
			if x := loaded(t, "reachable", []byte(b)); x.Len() <= 2 {
				few++
			}
		}
		if n != few || n == 0 {
			t.Errorf("gap %d: %d load, there are %d", gap, n, few)
		}
	}
}

// A frame holds so many entries: the bytes of an index with more are none, and it goes on to work.
func TestLong(t *testing.T) {
	x := made(t, 1)
	full := 0
	for i := range 90000 {
		want(t, "Note", x.Note(int64(i), i, 0), api.OK)
		if i%1000 == 0 && len(x.Bytes()) > 0 {
			full = i
		}
	}
	if b := x.Bytes(); len(b) != 0 || full < 80000 {
		t.Errorf("%d bytes of 90000 entries; %d were not too many", len(b), full)
	}
	want(t, "Cut", x.Cut(int64(full)), api.OK)
	same(t, "Load of many", x, loaded(t, "many", x.Bytes()))
	if e, ok := x.Find(70000); !ok || e.Place != 70000 {
		t.Error("Find", e, ok)
	}
}

func TestLoadAny(t *testing.T) {
	rnd := rand.New(rand.NewSource(9))
	for range 20000 {
		b := make([]byte, rnd.Intn(16))
		for i := range b {
			b[i] = byte([]int{0, 1, 2, 3, 9, 128, 255, rnd.Intn(256)}[rnd.Intn(8)])
		}
		b = sealed(b)
		x, err := index.Load(b)
		if err == api.OK && string(x.Bytes()) != string(b) || err != api.OK && (x != nil || err != api.ErrForm) {
			t.Error(fmt.Sprintf("Load(%x)", b), err, x.All())
		}
	}
}
