package rec_test

import (
	"encoding/binary"
	"encoding/hex"
	"math"
	"math/rand"
	"strings"
	"testing"

	"towpath/api"
	"towpath/rec"
)

// The calls keep the signatures that the chapter lists.
var (
	_       func(api.Batch) api.Errno                                     = rec.Valid
	_       func(api.Batch) int                                           = rec.Span
	_       func(api.Batch) int64                                         = rec.Next
	_       func(pid int64, epoch int, commit bool, time int64) api.Batch = rec.Mark
	_       func(api.Batch) ([]byte, api.Errno)                           = rec.Encode
	_       func([]byte) (api.Batch, api.Errno)                           = rec.Decode
	_       func(api.Batch) int                                           = rec.Size
	_       func(a, b api.Batch) bool                                     = rec.Same
	_       func(api.Batch) api.Batch                                     = rec.Copy
	_       func(api.Batch, int) []api.Batch                              = rec.Split
	_       func(...api.Batch) (api.Batch, api.Errno)                     = rec.Merge
	_       func(...api.Batch) []rec.At                                   = rec.Flat
	_       func(api.Batch, int64) (api.Batch, bool)                      = rec.From
	_                                                                     = rec.At{Offset: 1, Record: api.Record{Key: "k"}}.Key
	long                                                                  = strings.Repeat("x", api.MaxText)
	tooLong                                                               = long + "y"
)

// example1 is the batch of the chapter's first example.
func example1() api.Batch {
	return api.Batch{Base: 5, Kind: api.Plain, Time: 9, L: []api.Record{{Key: "ab", Value: "x", Time: 9}, {Key: "ac", Gone: true, Time: 8}}}
}

const encoded1 = "01 00 05 00 09 02 00 00 00 02 61 62 01 78 01 01 01 01 63"

// owned is a batch with a producer and n records.
func owned(n int) api.Batch {
	b := api.Batch{Base: 100, Pid: 7, Epoch: 3, Seq: 40, Kind: api.Part, Time: 50}
	for i := range n {
		b.L = append(b.L, api.Record{Key: "key" + string(rune('a'+i%20)), Value: strings.Repeat("v", i%5), Time: int64(i)})
	}
	return b
}

func unhex(t *testing.T, s string) []byte {
	t.Helper()
	b, err := hex.DecodeString(strings.ReplaceAll(s, " ", ""))
	if err != nil {
		t.Fatal(err)
	}
	return b
}

// equal holds batches against each other field by field, without the package's help.
func equal(a, b api.Batch) bool {
	if len(a.L) != len(b.L) {
		return false
	}
	for i := range a.L {
		if a.L[i] != b.L[i] {
			return false
		}
	}
	return a.Base == b.Base && a.Pid == b.Pid && a.Epoch == b.Epoch && a.Seq == b.Seq && a.Kind == b.Kind && a.Time == b.Time
}

func isMarker(b api.Batch) bool { return b.Kind == 2 || b.Kind == 3 }

// modelValid says the chapter's list of errors once more, number by number.
func modelValid(b api.Batch) api.Errno {
	for _, c := range []struct{ n, most int64 }{
		{int64(b.Kind), 3}, {b.Base, 1 << 40}, {b.Pid, 1 << 20}, {int64(b.Epoch), 32767}, {int64(b.Seq), 1<<31 - 1}, {b.Time, 1 << 40},
	} {
		if c.n < 0 || c.n > c.most {
			return api.ErrArg
		}
	}
	n := len(b.L)
	if b.Pid == 0 && !(b.Kind == 0 && b.Epoch == 0 && b.Seq == 0) || isMarker(b) != (n == 0) || isMarker(b) && b.Seq != 0 {
		return api.ErrArg
	}
	if n > 64 {
		return api.ErrLong
	}
	for _, r := range b.L {
		if max(len(r.Key), len(r.Value)) > 1024 {
			return api.ErrLong
		}
		if r.Time < 0 || r.Time > 1<<40 || r.Gone && len(r.Value) > 0 {
			return api.ErrArg
		}
	}
	if n > 0 && b.Base+int64(n) > 1<<40+1 || n > 0 && b.Pid != 0 && int64(b.Seq)+int64(n) > 1<<31 {
		return api.ErrExhausted
	}
	return api.OK
}

// modelEncode encodes a valid batch by the library's numbers.
func modelEncode(b api.Batch) []byte {
	raw := binary.AppendUvarint([]byte{1, byte(b.Kind)}, uint64(b.Base))
	raw = binary.AppendUvarint(raw, uint64(b.Pid))
	if b.Pid > 0 {
		raw = binary.AppendUvarint(raw, uint64(b.Epoch))
	}
	if b.Pid > 0 && !isMarker(b) {
		raw = binary.AppendUvarint(raw, uint64(b.Seq))
	}
	raw = binary.AppendUvarint(raw, uint64(b.Time))
	if isMarker(b) {
		return raw
	}
	raw = binary.AppendUvarint(raw, uint64(len(b.L)))
	for i, r := range b.L {
		raw = binary.AppendVarint(raw, r.Time-b.Time)
		gone := byte(0)
		if r.Gone {
			gone = 1
		}
		raw = append(raw, gone)
		shared := 0
		if i > 0 {
			for shared < len(r.Key) && strings.HasPrefix(b.L[i-1].Key, r.Key[:shared+1]) {
				shared++
			}
		}
		raw = binary.AppendUvarint(raw, uint64(shared))
		raw = binary.AppendUvarint(raw, uint64(len(r.Key)-shared))
		raw = append(raw, r.Key[shared:]...)
		if !r.Gone {
			raw = binary.AppendUvarint(raw, uint64(len(r.Value)))
			raw = append(raw, r.Value...)
		}
	}
	return raw
}

func pick[T any](rnd *rand.Rand, l ...T) T { return l[rnd.Intn(len(l))] }

// someBatch is mostly a valid batch, with numbers at their edges now and then.
func someBatch(rnd *rand.Rand) api.Batch {
	b := api.Batch{Base: pick(rnd, 0, 1, 300, api.MaxOffset-70, api.MaxOffset-int64(rnd.Intn(70)), api.MaxOffset), Time: pick[int64](rnd, 0, 5, 1000, api.MaxTime)}
	if rnd.Intn(3) > 0 {
		b.Pid = pick[int64](rnd, 1, 200, api.MaxPid)
		b.Epoch = pick(rnd, 0, 1, 129, api.MaxEpoch)
		b.Kind = rnd.Intn(4)
	}
	if isMarker(b) {
		return b
	}
	if b.Pid > 0 {
		b.Seq = pick(rnd, 0, 1, 500, api.MaxSeq-70, api.MaxSeq-rnd.Intn(70), api.MaxSeq)
	}
	for range pick(rnd, 1, 2, 3, 10, 63, 64) {
		b.L = append(b.L, someRecord(rnd))
	}
	return b
}

func someRecord(rnd *rand.Rand) api.Record {
	r := api.Record{Key: pick(rnd, "", "a", "ab", "abc", "abd", "b", "\x00", "\xff\xfe", "a\u00e9", "a\u00ea", long, long[:1023]), Time: pick[int64](rnd, 0, 4, 5, 6, 70, api.MaxTime)}
	if r.Gone = rnd.Intn(3) == 0; !r.Gone {
		r.Value = pick(rnd, "", "1", "two", long)
	}
	return r
}

// spoil sets one field to a number at or beyond an edge.
func spoil(rnd *rand.Rand, b api.Batch) api.Batch {
	b.L = append([]api.Record(nil), b.L...)
	edge := pick[int64](rnd, math.MinInt64, -1, 0, 1, 2, 3, 4, api.MaxEpoch, api.MaxEpoch+1, api.MaxPid, api.MaxPid+1, api.MaxSeq, api.MaxSeq+1, api.MaxOffset, api.MaxOffset+1, math.MaxInt64)
	switch rnd.Intn(10) {
	case 0:
		b.Kind = int(edge)
	case 1:
		b.Base = edge
	case 2:
		b.Pid = edge
	case 3:
		b.Epoch = int(edge)
	case 4:
		b.Seq = int(edge)
	case 5:
		b.Time = edge
	case 6:
		b.L = append(b.L, someRecord(rnd))
	case 7:
		b.L = nil
	default:
		if len(b.L) > 0 {
			r := &b.L[rnd.Intn(len(b.L))]
			*r = pick(rnd, api.Record{Key: tooLong}, api.Record{Value: tooLong}, api.Record{Gone: true, Value: "1"}, api.Record{Gone: true, Value: tooLong}, api.Record{Time: edge}, api.Record{Time: -1, Key: tooLong})
		}
	}
	return b
}
