package offsets_test

import (
	"fmt"
	"math"
	"math/rand"
	"testing"

	"towpath/api"
	"towpath/offsets"
)

// The chapter's examples.
func TestExamples(t *testing.T) {
	it := offsets.Commit{Part: 7, Offset: 300, Member: 2, Generation: 5}
	r, err := offsets.Record(it, 9)
	if r != (api.Record{Key: "o007", Value: "\xac\x02\x02\x05", Time: 9}) || err != api.OK {
		t.Errorf("Record: %v, %d", r, err)
	}
	_, o := fresh(t, small)
	if again, err := o.Put(3, 0, 0, 9, it); again || err != api.OK {
		t.Errorf("Put: %v, %d", again, err)
	}
	allAre(t, "ahead of the marker", o)
	waitingAre(t, "ahead of the marker", o, pending(3, 0, it))
	if again, err := o.Put(3, 0, 0, 9, it); !again || err != api.OK {
		t.Errorf("the same Put: %v, %d", again, err)
	}
	marks(t, o, 3, 0, true)
	allAre(t, "behind the marker", o, it)
	waitingAre(t, "behind the marker", o)
	if c, err := offsets.Parse(api.Record{Key: "o256", Value: r.Value}); c != (offsets.Commit{}) || err != api.ErrForm {
		t.Errorf("Parse of o256: %v, %d", c, err)
	}
}

// faults are commits with one number at or beyond an edge.
var faults = []struct {
	what string
	ok   bool
	do   func(c *offsets.Commit)
}{
	{"Part -1", false, func(c *offsets.Commit) { c.Part = -1 }},
	{"Part 0", true, func(c *offsets.Commit) { c.Part = 0 }},
	{"Part 9", true, func(c *offsets.Commit) { c.Part = 9 }},
	{"Part 10", true, func(c *offsets.Commit) { c.Part = 10 }},
	{"Part 99", true, func(c *offsets.Commit) { c.Part = 99 }},
	{"Part 100", true, func(c *offsets.Commit) { c.Part = 100 }},
	{"Part 255", true, func(c *offsets.Commit) { c.Part = 255 }},
	{"Part 256", false, func(c *offsets.Commit) { c.Part = 256 }},
	{"Part 1000", false, func(c *offsets.Commit) { c.Part = 1000 }},
	{"the least Part", false, func(c *offsets.Commit) { c.Part = math.MinInt }},
	{"the greatest Part", false, func(c *offsets.Commit) { c.Part = math.MaxInt }},
	{"Offset -1", false, func(c *offsets.Commit) { c.Offset = -1 }},
	{"Offset 0", true, func(c *offsets.Commit) { c.Offset = 0 }},
	{"Offset 127", true, func(c *offsets.Commit) { c.Offset = 127 }},
	{"Offset 128", true, func(c *offsets.Commit) { c.Offset = 128 }},
	{"Offset MaxOffset", true, func(c *offsets.Commit) { c.Offset = api.MaxOffset }},
	{"Offset MaxOffset + 1", false, func(c *offsets.Commit) { c.Offset = api.MaxOffset + 1 }},
	{"the least Offset", false, func(c *offsets.Commit) { c.Offset = math.MinInt64 }},
	{"the greatest Offset", false, func(c *offsets.Commit) { c.Offset = math.MaxInt64 }},
	{"Member -1", false, func(c *offsets.Commit) { c.Member = -1 }},
	{"Member 0", true, func(c *offsets.Commit) { c.Member = 0 }},
	{"Member 64", true, func(c *offsets.Commit) { c.Member = 64 }},
	{"Member 65", false, func(c *offsets.Commit) { c.Member = 65 }},
	{"the least Member", false, func(c *offsets.Commit) { c.Member = math.MinInt }},
	{"the greatest Member", false, func(c *offsets.Commit) { c.Member = math.MaxInt }},
	{"Generation -1", false, func(c *offsets.Commit) { c.Generation = -1 }},
	{"Generation 0", true, func(c *offsets.Commit) { c.Generation = 0 }},
	{"Generation 2^31 - 1", true, func(c *offsets.Commit) { c.Generation = lastGeneration }},
	{"Generation 2^31", false, func(c *offsets.Commit) { c.Generation = lastGeneration + 1 }},
	{"the least Generation", false, func(c *offsets.Commit) { c.Generation = math.MinInt }},
	{"the greatest Generation", false, func(c *offsets.Commit) { c.Generation = math.MaxInt }},
}

// records holds Record against the library's encoding, and Parse against Record, at each edge of times.
func records(t *testing.T, what string, c offsets.Commit, ok bool) {
	t.Helper()
	for time, may := range map[int64]bool{math.MinInt64: false, -1: false, 0: true, 9: true, api.MaxTime: true, api.MaxTime + 1: false, math.MaxInt64: false} {
		r, err := offsets.Record(c, time)
		if !ok || !may {
			if r != (api.Record{}) || err != api.ErrArg {
				t.Errorf("%s, time %d: %v, %d", what, time, r, err)
			}
			continue
		}
		if r != recorded(c, time) || err != api.OK {
			t.Errorf("%s, time %d: %v, %d, not %v", what, time, r, err, recorded(c, time))
		}
		if got, err := offsets.Parse(r); got != c || err != api.OK {
			t.Errorf("%s: Parse of %v: %v, %d, not %v", what, r, got, err, c)
		}
	}
}

// P14.1, P14.5: each edge alone, and with each of the others.
func TestRecord(t *testing.T) {
	for _, f := range faults {
		c := offsets.Commit{Part: 7, Offset: 300, Member: 2, Generation: 5}
		f.do(&c)
		records(t, f.what, c, f.ok)
		for _, g := range faults {
			c := offsets.Commit{Part: 7, Offset: 300, Member: 2, Generation: 5}
			f.do(&c)
			g.do(&c)
			records(t, f.what+" and "+g.what, c, !wrong(c))
		}
	}
	for n := range 256 {
		records(t, "any Part", commit(n, int64(n)), true)
	}
	records(t, "the zero commit", offsets.Commit{}, true)
}

// parses holds Parse against the model's.
func parses(t *testing.T, what string, r api.Record) {
	t.Helper()
	c, ok := parsed(r)
	want := api.ErrForm
	if ok {
		want = api.OK
	}
	if got, err := offsets.Parse(r); got != c || err != want {
		t.Errorf("%s: Parse of %+v: %v, %d, not %v, %d", what, r, got, err, c, want)
	}
}

// P14.1: what is no record of a commit.
func TestParse(t *testing.T) {
	value := "\xac\x02\x02\x05"
	great := "\x80\x80\x80\x80\x80\x20" // 2^40
	for _, c := range []struct {
		what, key, value string
		ok               bool
	}{
		{"a good one", "o007", value, true},
		{"Part 0", "o000", value, true},
		{"Part 255", "o255", value, true},
		{"Part 256", "o256", value, false},
		{"Part 260", "o260", value, false},
		{"Part 999", "o999", value, false},
		{"no key", "", value, false},
		{"the letter alone", "o", value, false},
		{"a short key", "o07", value, false},
		{"a long key", "o0007", value, false},
		{"a long key of a Part that may be", "o0255", value, false},
		{"a key that goes on", "o007 ", value, false},
		{"a key behind a letter", "oo07", value, false},
		{"two letters", "oo007", value, false},
		{"no letter", "007", value, false},
		{"no letter, four digits", "0007", value, false},
		{"a capital", "O007", value, false},
		{"another letter", "p007", value, false},
		{"a letter behind", "007o", value, false},
		{"a plus", "o+07", value, false},
		{"a minus", "o-07", value, false},
		{"minus nought", "o-00", value, false},
		{"a space", "o 07", value, false},
		{"spaces", "o7  ", value, false},
		{"a hexadecimal digit", "o0a7", value, false},
		{"a hexadecimal number", "o0x7", value, false},
		{"an underscore", "o0_7", value, false},
		{"a point", "o1.5", value, false},
		{"an exponent", "o1e1", value, false},
		{"a nought byte", "o00\x00", value, false},
		{"the sign below 0", "o00/", value, false},
		{"the sign above 9", "o00:", value, false},
		{"a digit of another script", "o0٣", value, false},
		{"three of them", "o٠٠٣", value, false},
		{"no value", "o007", "", false},
		{"one number", "o007", "\xac\x02", false},
		{"two numbers", "o007", "\xac\x02\x02", false},
		{"cut off in the first number", "o007", "\xac", false},
		{"cut off in the last number", "o007", "\xac\x02\x02\x85", false},
		{"goes on", "o007", value + "\x00", false},
		{"a fourth number", "o007", value + "\x05", false},
		{"Offset 0", "o007", "\x00\x02\x05", true},
		{"Offset MaxOffset", "o007", great + "\x02\x05", true},
		{"Offset MaxOffset + 1", "o007", "\x81" + great[1:] + "\x02\x05", false},
		{"Offset 2^63", "o007", "\x80\x80\x80\x80\x80\x80\x80\x80\x80\x01\x02\x05", false},
		{"Offset 2^64 - 1", "o007", "\xff\xff\xff\xff\xff\xff\xff\xff\xff\x01\x02\x05", false},
		{"Offset 2^64", "o007", "\x80\x80\x80\x80\x80\x80\x80\x80\x80\x02\x02\x05", false},
		{"Offset of eleven bytes", "o007", "\x80\x80\x80\x80\x80\x80\x80\x80\x80\x80\x01\x02\x05", false},
		{"Member 64", "o007", "\x00\x40\x05", true},
		{"Member 65", "o007", "\x00\x41\x05", false},
		{"Member 2^32", "o007", "\x00\x80\x80\x80\x80\x10\x05", false},
		{"Member 2^64 - 1", "o007", "\x00\xff\xff\xff\xff\xff\xff\xff\xff\xff\x01\x05", false},
		{"Generation 2^31 - 1", "o007", "\x00\x02\xff\xff\xff\xff\x07", true},
		{"Generation 2^31", "o007", "\x00\x02\x80\x80\x80\x80\x08", false},
		{"Generation 2^32 + 5", "o007", "\x00\x02\x85\x80\x80\x80\x10", false},
		{"Generation 2^64 - 1", "o007", "\x00\x02\xff\xff\xff\xff\xff\xff\xff\xff\xff\x01", false},
		{"Offset not in its shortest form", "o007", "\xac\x82\x00\x02\x05", false},
		{"nought not in its shortest form", "o007", "\x80\x00\x02\x05", false},
		{"Member not in its shortest form", "o007", "\xac\x02\x82\x00\x05", false},
		{"Generation not in its shortest form", "o007", "\xac\x02\x02\x85\x00", false},
		{"all of it noughts", "o000", "\x00\x00\x00", true},
	} {
		for _, time := range []int64{math.MinInt64, -1, 0, 9, api.MaxTime, api.MaxTime + 1, math.MaxInt64} {
			r := api.Record{Key: c.key, Value: c.value, Time: time}
			if _, ok := parsed(r); ok != c.ok {
				t.Errorf("%s: the model says %v", c.what, ok)
			}
			parses(t, c.what, r)
			r.Gone = true
			parses(t, c.what+", gone", r)
			r.Value = ""
			parses(t, c.what+", gone without a value", r)
		}
	}
	for n := range 1000 {
		parses(t, "any number", api.Record{Key: fmt.Sprintf("o%03d", n), Value: value})
	}
}

// P14.1, P14.5: records of commits with each byte spoilt, left out and doubled.
func TestParseSpoilt(t *testing.T) {
	rnd := rand.New(rand.NewSource(1))
	for range 40 {
		r := recorded(someCommit(rnd), 9)
		n := len(r.Key)
		whole := r.Key + r.Value
		split := func(what, s string, n int) {
			parses(t, what, api.Record{Key: s[:n], Value: s[n:], Time: 9})
		}
		for i := range whole {
			end := n
			if i < n {
				end = n - 1
			}
			split("left out", whole[:i]+whole[i+1:], end)
			split("doubled", whole[:i+1]+whole[i:], n+n-end)
			for b := range 256 {
				split("spoilt", whole[:i]+string([]byte{byte(b)})+whole[i+1:], n)
			}
		}
	}
}

// someCommit is valid, with numbers of any size.
func someCommit(rnd *rand.Rand) offsets.Commit {
	return offsets.Commit{Part: rnd.Intn(256), Offset: rnd.Int63n(1 << rnd.Intn(41)), Member: rnd.Intn(65), Generation: rnd.Intn(1 << rnd.Intn(32))}
}

// P14.5: different commits have different records.
func TestRecordsDiffer(t *testing.T) {
	rnd := rand.New(rand.NewSource(2))
	by := map[api.Record]offsets.Commit{}
	for range 20000 {
		c := someCommit(rnd)
		records := []offsets.Commit{c, {Part: c.Part, Offset: c.Offset % 300, Member: c.Member, Generation: c.Generation % 300}}
		for _, c := range records {
			r, err := offsets.Record(c, 0)
			if d, there := by[r]; err != api.OK || there && d != c {
				t.Fatalf("Record of %v and %v: %v, %d", c, d, r, err)
			}
			by[r] = c
			if got, err := offsets.Parse(r); got != c || err != api.OK {
				t.Fatalf("Parse of %v: %v, %d", r, got, err)
			}
		}
	}
}
