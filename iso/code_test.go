package iso_test

import (
	"encoding/binary"
	"fmt"
	"math"
	"math/rand"
	"slices"
	"testing"

	"towpath/api"
	"towpath/iso"
)

func refused(t *testing.T, what string, b []byte) {
	t.Helper()
	if v, err := iso.Load(b); v != nil || err != api.ErrForm {
		t.Errorf("%s: Load(%x): %v, %d", what, b, v, err)
	}
}

func loaded(t *testing.T, what string, b []byte) *iso.View {
	t.Helper()
	v, err := iso.Load(b)
	if err != api.OK || string(v.Bytes()) != string(b) {
		t.Fatalf("%s: Load(%x): %d, %x", what, b, err, v.Bytes())
	}
	return v
}

// P8.4: the bytes of an empty view, and of open and aborted transactions in their order.
func TestBytes(t *testing.T) {
	v := iso.New()
	for _, c := range []struct {
		b    api.Batch
		body []byte
	}{
		{plain(1, 0), []byte{1, 0, 0}},
		{part(300, 2, 1, 1), []byte{2, 1, 0xac, 2, 2, 1, 0}},
		{part(4, 0, 2, 2), []byte{4, 2, 0xac, 2, 2, 1, 4, 0, 2, 0}},
		{part(5, 1, 1, 130), []byte{0x83, 1, 3, 0xac, 2, 2, 1, 4, 0, 2, 5, 1, 0x82, 1, 0}},
		{abort(5, 1, 131), []byte{0x84, 1, 2, 0xac, 2, 2, 1, 4, 0, 2, 1, 5, 1, 0x82, 1, 0x83, 1}},
		{abort(4, 0, 132), []byte{0x85, 1, 1, 0xac, 2, 2, 1, 2, 5, 1, 0x82, 1, 0x83, 1, 4, 0, 2, 0x84, 1}},
		{commit(300, 2, 133), []byte{0x86, 1, 0, 2, 5, 1, 0x82, 1, 0x83, 1, 4, 0, 2, 0x84, 1}},
	} {
		take(t, v, c.b)
		if got, want := v.Bytes(), sealed(c.body); string(got) != string(want) {
			t.Errorf("behind %v: %x, not %x", c.b, got, want)
		}
	}
	if got, want := iso.New().Bytes(), sealed([]byte{0, 0, 0}); string(got) != string(want) {
		t.Errorf("New: %x, not %x", got, want)
	}
}

// sample is a view with open and aborted transactions.
func sample(t *testing.T) *iso.View {
	return taken(t, part(3, 0, 2, 0), part(5, 7, 1, 2), part(4, 300, 1, 3), abort(5, 7, 4), part(5, 8, 1, 5), part(6, 1, 1, 6), abort(6, 1, 7), plain(1, 300))
}

// P8.8: what is loaded behaves as what was there; and the two know nothing of each other.
func TestRoundTrip(t *testing.T) {
	rnd := rand.New(rand.NewSource(5))
	for range 150 {
		v, m := iso.New(), &model{}
		for range rnd.Intn(50) {
			b := someBatch(rnd, m)
			v.Take(b)
			m.take(b)
		}
		b := v.Bytes()
		x := loaded(t, "Load", b)
		same(t, "Load", x, v)
		for range 30 {
			next := someBatch(rnd, m)
			want(t, "loaded: Take", x.Take(next), m.take(next))
			agree(t, x, m)
		}
		if string(v.Bytes()) != string(b) {
			t.Error("the first one changed")
		}
		if t.Failed() {
			return
		}
	}
	b := sample(t).Bytes()
	v, _ := iso.Load(b)
	clear(b)
	same(t, "bytes that are cleared", v, sample(t))
}

// P8.4: bytes that are cut off anywhere, go on behind the end, or have a byte changed.
func TestLoadSpoilt(t *testing.T) {
	for _, v := range []*iso.View{iso.New(), sample(t)} {
		b := v.Bytes()
		for i := range b {
			refused(t, "cut off", b[:i])
			for _, bit := range []byte{1, 2, 0x10, 0x80, 0xff} {
				c := slices.Clone(b)
				c[i] ^= bit
				refused(t, "changed", c)
			}
		}
		for _, more := range [][]byte{{0}, {1}, {0, 0, 0, 0}, b} {
			refused(t, "goes on", slices.Concat(b, more))
		}
		body := b[4 : len(b)-4]
		for i := range body {
			refused(t, "a body that is cut off", sealed(body[:i]))
		}
		refused(t, "a body that goes on", sealed(append(slices.Clone(body), 0)))
		refused(t, "a body without a frame", body)
	}
	refused(t, "nil", nil)
	refused(t, "empty", []byte{})
	refused(t, "text", []byte("no"))
}

// Rule 8: numbers in another form than their own, numbers that are too great, and counts of more or less than there is.
func TestLoadForms(t *testing.T) {
	l := []int64{20, 1, 3, 5, 7, 1, 4, 6, 8, 9}
	loaded(t, "one open, one aborted", sealed(numbers(l...)))
	for i := range l {
		ahead, n, behind := numbers(l[:i]...), byte(l[i]), numbers(l[i+1:]...)
		refused(t, "a longer form", sealed(slices.Concat(ahead, []byte{n | 0x80, 0}, behind)))
		refused(t, "a number of more than 64 bits", sealed(slices.Concat(ahead, binary.AppendUvarint(nil, math.MaxUint64)[:9], []byte{2}, behind)))
		for _, great := range []uint64{1<<42 + uint64(n), 1 << 62, 1<<63 - 1, 1 << 63, 1<<63 + uint64(n), math.MaxUint64} {
			refused(t, fmt.Sprintf("number %d is %d", i, great), sealed(slices.Concat(ahead, binary.AppendUvarint(nil, great), behind)))
		}
		if i == 1 || i == 5 {
			for _, n := range []uint64{0, 2, 3, 1024, 1025, 4096, 4097, 1 << 32, 1<<32 + 1, math.MaxInt64} {
				refused(t, "another count", sealed(slices.Concat(ahead, binary.AppendUvarint(nil, n), behind)))
			}
		}
	}
	for _, l := range [][]int64{{20}, {20, 0}, {20, 1, 0}, {20, 1025, 0}, {20, 1 << 40, 0}, {20, 0, 1}, {20, 0, 4097}, {20, 0, 0, 0}} { // counts, and nothing of what they count
		refused(t, fmt.Sprint(l), sealed(numbers(l...)))
	}
}

// P8.4: each condition at its limits and beyond, by itself.
func TestLoadLimits(t *testing.T) {
	x := func(pid int64, epoch int, first, last int64) iso.Txn {
		return iso.Txn{Pid: pid, Epoch: epoch, First: first, Last: last}
	}
	o := func(pid int64, epoch int, first int64) iso.Txn { return x(pid, epoch, first, -1) }
	for _, c := range []struct {
		what         string
		next         int64
		open, fallen []iso.Txn
		ok           bool
	}{
		{"nothing", 0, nil, nil, true},
		{"the last offset", api.MaxOffset + 1, nil, nil, true},
		{"beyond it", api.MaxOffset + 2, nil, nil, false},
		{"below 0", -1, nil, nil, false},

		{"open: the least", 1, []iso.Txn{o(1, 0, 0)}, nil, true},
		{"open: the greatest", api.MaxOffset + 1, []iso.Txn{o(api.MaxPid, api.MaxEpoch, api.MaxOffset)}, nil, true},
		{"open: nobody", 1, []iso.Txn{o(0, 0, 0)}, nil, false},
		{"open: a producer below 0", 1, []iso.Txn{o(-1, 0, 0)}, nil, false},
		{"open: a producer beyond the last", 1, []iso.Txn{o(api.MaxPid+1, 0, 0)}, nil, false},
		{"open: an epoch below 0", 1, []iso.Txn{o(1, -1, 0)}, nil, false},
		{"open: an epoch beyond the last", 1, []iso.Txn{o(1, api.MaxEpoch+1, 0)}, nil, false},
		{"open: at the next offset", 5, []iso.Txn{o(1, 0, 5)}, nil, false},
		{"open: just below it", 5, []iso.Txn{o(1, 0, 4)}, nil, true},
		{"open: below 0", 5, []iso.Txn{o(1, 0, -1)}, nil, false},
		{"open: two", 5, []iso.Txn{o(2, 0, 1), o(1, 0, 2)}, nil, true},
		{"open: two of one producer", 5, []iso.Txn{o(1, 0, 1), o(1, 1, 2)}, nil, false},
		{"open: the same twice", 5, []iso.Txn{o(1, 0, 1), o(1, 0, 2)}, nil, false},
		{"open: at one offset", 5, []iso.Txn{o(1, 0, 1), o(2, 0, 1)}, nil, false},
		{"open: falling offsets", 5, []iso.Txn{o(1, 0, 2), o(2, 0, 1)}, nil, false},
		{"open: the second at the next offset", 5, []iso.Txn{o(1, 0, 2), o(2, 0, 5)}, nil, false},
		{"open: the second nobody", 5, []iso.Txn{o(1, 0, 2), o(0, 0, 3)}, nil, false},

		{"aborted: the least", 2, nil, []iso.Txn{x(1, 0, 0, 1)}, true},
		{"aborted: the greatest", api.MaxOffset + 1, nil, []iso.Txn{x(api.MaxPid, api.MaxEpoch, api.MaxOffset-1, api.MaxOffset)}, true},
		{"aborted: nobody", 2, nil, []iso.Txn{x(0, 0, 0, 1)}, false},
		{"aborted: a producer below 0", 2, nil, []iso.Txn{x(-1, 0, 0, 1)}, false},
		{"aborted: a producer beyond the last", 2, nil, []iso.Txn{x(api.MaxPid+1, 0, 0, 1)}, false},
		{"aborted: an epoch below 0", 2, nil, []iso.Txn{x(1, -1, 0, 1)}, false},
		{"aborted: an epoch beyond the last", 2, nil, []iso.Txn{x(1, api.MaxEpoch+1, 0, 1)}, false},
		{"aborted: at the next offset", 5, nil, []iso.Txn{x(1, 0, 0, 5)}, false},
		{"aborted: just below it", 5, nil, []iso.Txn{x(1, 0, 0, 4)}, true},
		{"aborted: at its First", 5, nil, []iso.Txn{x(1, 0, 3, 3)}, false},
		{"aborted: just above it", 5, nil, []iso.Txn{x(1, 0, 2, 3)}, true},
		{"aborted: below it", 5, nil, []iso.Txn{x(1, 0, 4, 3)}, false},
		{"aborted: both at 0", 5, nil, []iso.Txn{x(1, 0, 0, 0)}, false},
		{"aborted: First below 0", 5, nil, []iso.Txn{x(1, 0, -1, 3)}, false},
		{"aborted: both below 0", 5, nil, []iso.Txn{x(1, 0, -2, -1)}, false},
		{"aborted: two", 5, nil, []iso.Txn{x(2, 0, 1, 3), x(1, 0, 0, 4)}, true},
		{"aborted: two epochs of one producer", 5, nil, []iso.Txn{x(1, 1, 0, 1), x(1, 0, 2, 3)}, true},
		{"aborted: two that begin at one offset", 5, nil, []iso.Txn{x(1, 0, 0, 1), x(2, 0, 0, 3)}, true},
		{"aborted: the same twice", 5, nil, []iso.Txn{x(1, 0, 0, 1), x(1, 0, 2, 3)}, false},
		{"aborted: at one offset", 5, nil, []iso.Txn{x(1, 0, 0, 3), x(2, 0, 1, 3)}, false},
		{"aborted: falling offsets", 5, nil, []iso.Txn{x(1, 0, 0, 3), x(2, 0, 1, 2)}, false},
		{"aborted: the second at the next offset", 5, nil, []iso.Txn{x(1, 0, 0, 3), x(2, 0, 1, 5)}, false},
		{"aborted: the second nobody", 5, nil, []iso.Txn{x(1, 0, 0, 3), x(0, 0, 1, 4)}, false},

		{"both", 5, []iso.Txn{o(1, 0, 2)}, []iso.Txn{x(2, 0, 1, 3)}, true},
		{"two epochs of one producer", 5, []iso.Txn{o(1, 1, 2)}, []iso.Txn{x(1, 0, 0, 1)}, true},
		{"one epoch of two producers", 5, []iso.Txn{o(1, 1, 2)}, []iso.Txn{x(2, 1, 0, 1)}, true},
		{"the same open and aborted", 5, []iso.Txn{o(1, 0, 2)}, []iso.Txn{x(1, 0, 0, 1)}, false},
		{"the second open and aborted", 5, []iso.Txn{o(3, 0, 1), o(1, 0, 2)}, []iso.Txn{x(2, 0, 0, 1), x(1, 0, 0, 3)}, false},
		{"open where one was aborted", 5, []iso.Txn{o(1, 0, 3)}, []iso.Txn{x(2, 0, 0, 3)}, true},
	} {
		b := sealed(body(c.next, c.open, c.fallen))
		if !c.ok {
			refused(t, c.what, b)
			continue
		}
		v := loaded(t, c.what, b)
		txnsAre(t, c.what, v.Open(), c.open...)
		txnsAre(t, c.what, v.Fallen(), c.fallen...)
	}
}

// P8.4: as many transactions as may be, with the longest numbers, and one more of each.
func TestLoadMany(t *testing.T) {
	many := func(opens, falls int) []byte {
		var open, fallen []iso.Txn
		for i := range opens {
			open = append(open, iso.Txn{Pid: int64(api.MaxPid - i), Epoch: api.MaxEpoch, First: int64(api.MaxOffset - opens + i), Last: -1})
		}
		for i := range falls {
			fallen = append(fallen, iso.Txn{Pid: int64(api.MaxPid - 5000 - i), Epoch: api.MaxEpoch, First: api.MaxOffset - 9000, Last: int64(api.MaxOffset - falls + i)})
		}
		return sealed(body(api.MaxOffset+1, open, fallen))
	}
	for _, c := range []struct {
		open, fallen int
		ok           bool
	}{
		{1, 1, true}, {1023, 4095, true}, {1024, 4096, true}, {1024, 0, true}, {0, 4096, true},
		{1025, 0, false}, {0, 4097, false}, {1025, 4096, false}, {1024, 4097, false},
	} {
		b := many(c.open, c.fallen)
		if !c.ok {
			refused(t, fmt.Sprint(c), b)
			continue
		}
		if v := loaded(t, fmt.Sprint(c), b); len(v.Open()) != c.open || len(v.Fallen()) != c.fallen {
			t.Errorf("%v: %d open, %d aborted", c, len(v.Open()), len(v.Fallen()))
		}
	}
}

func TestLoadAny(t *testing.T) {
	rnd := rand.New(rand.NewSource(6))
	fit := 0
	for range 50000 {
		opens, falls := rnd.Intn(3), rnd.Intn(3)
		b := make([]byte, 3+3*opens+4*falls+rnd.Intn(8)/7)
		for i := range b {
			b[i] = byte([]int{0, 1, 1, 2, 3, 4, 9, 128, rnd.Intn(256)}[rnd.Intn(9)])
		}
		if rnd.Intn(8) > 0 {
			b[0], b[1], b[2+3*opens] = byte(rnd.Intn(20)), byte(opens), byte(falls)
		}
		b = sealed(b)
		v, err := iso.Load(b)
		if err == api.OK {
			fit++
		}
		if err == api.OK && string(v.Bytes()) != string(b) || err != api.OK && (v != nil || err != api.ErrForm) {
			t.Error(fmt.Sprintf("Load(%x)", b), err, v.Open(), v.Fallen())
		}
	}
	if fit < 500 {
		t.Errorf("%d views of 50000", fit)
	}
}
