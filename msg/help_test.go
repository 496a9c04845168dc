package msg_test

import (
	"encoding/binary"
	"fmt"
	"hash/crc32"
	"math"
	"math/rand"
	"reflect"
	"slices"
	"strings"
	"testing"

	"towpath/api"
	"towpath/msg"
	"towpath/offsets"
	"towpath/rec"
)

// The calls keep the signatures that the chapter lists.
var (
	_ func(msg.Msg) api.Errno           = msg.Valid
	_ func(msg.Msg) ([]byte, api.Errno) = msg.Encode
	_ func([]byte) (msg.Msg, api.Errno) = msg.Decode
	_ func(msg.Msg) msg.Msg             = msg.Answer
	_ func(msg.Msg, api.Errno) msg.Msg  = msg.Refuse
	_ func(a, b msg.Msg) bool           = msg.Same
	_ func(msg.Msg) msg.Msg             = msg.Copy
	_ [13]int                           = [13]int{msg.Produce: 1, msg.Fetch: 2, msg.Join: 3, msg.Beat: 4, msg.Leave: 5, msg.Parts: 6, msg.Init: 7, msg.Add: 8, msg.End: 9, msg.Commit: 10, msg.Offset: 11, msg.Mark: 12}
	_ msg.Head                          = msg.Head{Kind: 1, Reply: true, From: 1, To: 1, Id: int64(1)}
	_ struct {
		msg.Head
		Err api.Errno
	} = struct {
		msg.Head
		Err api.Errno
	}{}
)

// layouts are the fields by kinds, as the chapter's table has them.
var layouts = [13][2]string{
	msg.Produce: {"Part Batch", "Offset On"},
	msg.Fetch:   {"Part Offset Most On", "Offset Top Rows"},
	msg.Join:    {"Member Generation Ints", "Generation"},
	msg.Beat:    {"Member Generation", ""},
	msg.Leave:   {"Member", ""},
	msg.Parts:   {"Member Generation", "Ints"},
	msg.Init:    {"Name Who Limit", "Pid Epoch"},
	msg.Add:     {"Pid Epoch Ints", ""},
	msg.End:     {"Pid Epoch On", "Epoch"},
	msg.Commit:  {"Pid Epoch Seq Member Generation Commits", "On"},
	msg.Offset:  {"Part", "Offset On"},
	msg.Mark:    {"Pid Epoch Part On", "Pid Epoch Part On"},
}

// names are all fields beside the header and Err.
var names = strings.Fields("Part Offset Top Most On Pid Epoch Seq Who Limit Member Generation Name Ints Batch Rows Commits")

// spans are the least and the greatest value of each number.
var spans = map[string][2]int64{
	"From":       {0, 999},
	"To":         {0, 999},
	"Id":         {0, api.MaxTime},
	"Part":       {0, 1023},
	"Offset":     {-1, api.MaxOffset + 1},
	"Top":        {-1, api.MaxOffset + 1},
	"Most":       {1, 1024},
	"Pid":        {0, api.MaxPid},
	"Epoch":      {0, api.MaxEpoch + 1},
	"Seq":        {0, api.MaxSeq},
	"Who":        {0, api.MaxTime},
	"Limit":      {0, api.MaxTime},
	"Member":     {0, 64},
	"Generation": {0, 1<<31 - 1},
}

// own are the fields of a message.
func own(m msg.Msg) []string {
	if m.Err != api.OK || m.Kind < 1 || m.Kind > 12 {
		return nil
	}
	if m.Reply {
		return strings.Fields(layouts[m.Kind][1])
	}
	return strings.Fields(layouts[m.Kind][0])
}

func field(m *msg.Msg, name string) reflect.Value { return reflect.ValueOf(m).Elem().FieldByName(name) }

// with is a copy with one field set.
func with(m msg.Msg, name string, value any) msg.Msg {
	f := field(&m, name)
	f.Set(reflect.ValueOf(value).Convert(f.Type()))
	return m
}

func want(t *testing.T, what string, got, err api.Errno) {
	t.Helper()
	if got != err {
		t.Errorf("%s: %d, not %d", what, got, err)
	}
}

// sealed is a frame, by the library's checksum.
func sealed(body []byte) []byte {
	b := binary.LittleEndian.AppendUint32(nil, uint32(len(body)))
	b = append(b, body...)
	return binary.LittleEndian.AppendUint32(b, crc32.ChecksumIEEE(b))
}

func uint(n int64) []byte { return binary.AppendUvarint(nil, uint64(n)) }

func text(s string) []byte { return append(uint(int64(len(s))), s...) }

func flag(on bool) []byte {
	if on {
		return []byte{1}
	}
	return []byte{0}
}

// body is how the chapter has a message encoded, whether it is valid or not.
func body(m msg.Msg) []byte {
	b := append([]byte{byte(m.Kind)}, flag(m.Reply)...)
	b = append(b, slices.Concat(uint(int64(m.From)), uint(int64(m.To)), uint(m.Id))...)
	if m.Reply {
		b = append(b, uint(int64(m.Err))...)
	}
	for _, name := range own(m) {
		b = append(b, part(m, name)...)
	}
	return b
}

func part(m msg.Msg, name string) []byte {
	var b []byte
	switch name {
	case "On":
		return flag(m.On)
	case "Name":
		return text(m.Name)
	case "Batch":
		return text(string(batch(m.Batch)))
	case "Offset", "Top":
		return binary.AppendVarint(nil, field(&m, name).Int())
	case "Ints":
		b = uint(int64(len(m.Ints)))
		for _, n := range m.Ints {
			b = append(b, uint(int64(n))...)
		}
	case "Rows":
		b = uint(int64(len(m.Rows)))
		for i, r := range m.Rows {
			before := int64(0)
			if i > 0 {
				before = m.Rows[i-1].Offset
			}
			b = append(b, uint(r.Offset-before)...)
			b = append(b, text(string(batch(api.Batch{L: []api.Record{r.Record}})))...)
		}
	case "Commits":
		b = uint(int64(len(m.Commits)))
		for _, c := range m.Commits {
			b = append(b, text(fmt.Sprintf("o%03d", c.Part))...)
			b = append(b, text(string(slices.Concat(uint(c.Offset), uint(int64(c.Member)), uint(int64(c.Generation)))))...)
		}
	default:
		return uint(field(&m, name).Int())
	}
	return b
}

// batch is the encoding of a batch, valid or not, as layer 3 has it.
func batch(b api.Batch) []byte {
	l := slices.Concat([]byte{1, byte(b.Kind)}, uint(b.Base), uint(b.Pid))
	marker := b.Kind > api.Part
	if b.Pid != 0 {
		l = append(l, uint(int64(b.Epoch))...)
		if !marker {
			l = append(l, uint(int64(b.Seq))...)
		}
	}
	l = append(l, uint(b.Time)...)
	if marker {
		return l
	}
	l = append(l, uint(int64(len(b.L)))...)
	key := ""
	for _, r := range b.L {
		n := 0
		for n < len(key) && n < len(r.Key) && key[n] == r.Key[n] {
			n++
		}
		l = append(l, slices.Concat(binary.AppendVarint(nil, r.Time-b.Time), flag(r.Gone), uint(int64(n)), text(r.Key[n:]))...)
		if !r.Gone {
			l = append(l, text(r.Value)...)
		}
		key = r.Key
	}
	return l
}

func at(offset int64, key, value string) rec.At {
	return rec.At{Offset: offset, Record: api.Record{Key: key, Value: value, Time: 3}}
}

// some are messages of each kind: a request, a reply, and a refusal.
func some() []msg.Msg {
	var l []msg.Msg
	for kind := 1; kind <= 12; kind++ {
		for _, m := range []msg.Msg{{}, {Head: msg.Head{Reply: true}}, {Head: msg.Head{Reply: true}, Err: api.ErrRange}} {
			m.Kind, m.From, m.To, m.Id = kind, 101, 1, 300
			for _, name := range own(m) {
				m = with(m, name, usual(name))
			}
			l = append(l, m)
		}
	}
	return l
}

// usual is what a field has that is at none of its bounds.
func usual(name string) any {
	switch name {
	case "On":
		return true
	case "Name":
		return "t0"
	case "Ints":
		return []int{2, 0, 300}
	case "Batch":
		return api.Batch{Kind: api.Part, Pid: 3, Epoch: 2, Seq: 7, Time: 9, L: []api.Record{{Key: "ab", Value: "x", Time: 9}, {Key: "ac", Gone: true, Time: 8}}}
	case "Rows":
		return []rec.At{at(5, "k", "v"), {Offset: 300, Record: api.Record{Key: "k", Gone: true}}}
	case "Commits":
		return []offsets.Commit{{Part: 7, Offset: 300, Member: 2, Generation: 5}, {Part: 0, Offset: 1, Member: 2, Generation: 5}}
	}
	return int64(5 + slices.Index(names, name))
}

func who(m msg.Msg) string { return fmt.Sprintf("kind %d, reply %v, err %d", m.Kind, m.Reply, m.Err) }

// alike: both calls say that a message is valid, and its encoding is the one of the chapter, and is decoded to it.
func alike(t *testing.T, what string, m msg.Msg) {
	t.Helper()
	want(t, what+": Valid", msg.Valid(m), api.OK)
	b, err := msg.Encode(m)
	if w := sealed(body(m)); err != api.OK || string(b) != string(w) {
		t.Errorf("%s: Encode: %x, %d, not %x", what, cut(b), err, cut(w))
	}
	n, err := msg.Decode(b)
	if err != api.OK || !reflect.DeepEqual(plain(n), plain(m)) {
		t.Errorf("%s: Decode: %+v, %d", what, n, err)
	}
	if !msg.Same(m, n) || !msg.Same(n, m) {
		t.Errorf("%s: Decode is not the same: %+v", what, n)
	}
}

// cut is what can be shown of bytes.
func cut(b []byte) []byte { return b[:min(len(b), 200)] }

// plain is a message whose empty slices are nil.
func plain(m msg.Msg) msg.Msg {
	if len(m.Ints) == 0 {
		m.Ints = nil
	}
	if len(m.Rows) == 0 {
		m.Rows = nil
	}
	if len(m.Commits) == 0 {
		m.Commits = nil
	}
	if len(m.Batch.L) == 0 {
		m.Batch.L = nil
	}
	return m
}

// refused: both calls have the error, and the encoding that it would have is none.
func refused(t *testing.T, what string, m msg.Msg, err api.Errno) {
	t.Helper()
	want(t, what+": Valid", msg.Valid(m), err)
	b, got := msg.Encode(m)
	if got != err || len(b) != 0 {
		t.Errorf("%s: Encode: %x, %d, not %d", what, cut(b), got, err)
	}
	if told(m) {
		undecoded(t, what, body(m))
	}
}

// told reports whether all that a message has is in its encoding.
func told(m msg.Msg) bool {
	fields := own(m)
	for _, name := range names {
		if !slices.Contains(fields, name) && !field(&m, name).IsZero() {
			return false
		}
	}
	return (m.Reply || m.Err == api.OK) && 0 <= m.Kind && m.Kind < 256
}

// undecoded: the frame of this body is no message.
func undecoded(t *testing.T, what string, body []byte) {
	t.Helper()
	if m, err := msg.Decode(sealed(body)); err != api.ErrForm || !reflect.DeepEqual(plain(m), msg.Msg{}) {
		t.Errorf("%s: Decode(%x): %+v, %d", what, cut(body), m, err)
	}
}

// anyMsg is a valid message by chance.
func anyMsg(rnd *rand.Rand) msg.Msg {
	m := msg.Msg{Head: msg.Head{Kind: 1 + rnd.Intn(12), Reply: rnd.Intn(2) == 0}}
	for _, name := range []string{"From", "To", "Id"} {
		m = with(m, name, number(rnd, name))
	}
	if m.Reply && rnd.Intn(4) == 0 {
		m.Err = api.Errno(1 + rnd.Intn(99))
	}
	for _, name := range own(m) {
		m = with(m, name, anyValue(rnd, name))
	}
	return m
}

func number(rnd *rand.Rand, name string) int64 {
	s := spans[name]
	switch rnd.Intn(5) {
	case 0:
		return s[0]
	case 1:
		return s[1]
	case 2:
		return s[0] + rnd.Int63n(min(s[1]-s[0]+1, 300))
	}
	return s[0] + rnd.Int63n(s[1]-s[0]+1)
}

func anyValue(rnd *rand.Rand, name string) any {
	switch name {
	case "On":
		return rnd.Intn(2) == 0
	case "Name":
		return anyText(rnd, 25)
	case "Ints":
		l := []int{}
		for range rnd.Intn(1 + 300>>rnd.Intn(10)) {
			l = append(l, int(number(rnd, "Part")))
		}
		return l
	case "Batch":
		b := api.Batch{Time: number(rnd, "Id")}
		if rnd.Intn(3) > 0 {
			b.Kind, b.Pid, b.Epoch, b.Seq = rnd.Intn(2), 1+rnd.Int63n(api.MaxPid), rnd.Intn(api.MaxEpoch+1), rnd.Intn(api.MaxSeq-64)
		}
		for range 1 + rnd.Intn(64>>rnd.Intn(7)) {
			b.L = append(b.L, anyRecord(rnd))
		}
		return b
	case "Rows":
		l := []rec.At{}
		offset := int64(-1)
		for range rnd.Intn(1 + 100>>rnd.Intn(8)) {
			offset += 1 + rnd.Int63n(1<<rnd.Intn(33))
			l = append(l, rec.At{Offset: offset, Record: anyRecord(rnd)})
		}
		return l
	case "Commits":
		l := []offsets.Commit{}
		for range rnd.Intn(1 + 64>>rnd.Intn(7)) {
			l = append(l, offsets.Commit{Part: rnd.Intn(256), Offset: number(rnd, "Id"), Member: rnd.Intn(65), Generation: int(number(rnd, "Generation"))})
		}
		return l
	}
	return number(rnd, name)
}

func anyRecord(rnd *rand.Rand) api.Record {
	r := api.Record{Key: anyText(rnd, 1025), Time: number(rnd, "Id"), Gone: rnd.Intn(3) == 0}
	if !r.Gone {
		r.Value = anyText(rnd, 1025)
	}
	return r
}

func anyText(rnd *rand.Rand, below int) string {
	b := make([]byte, rnd.Intn(below)>>rnd.Intn(8))
	for i := range b {
		b[i] = "ab\x00\xff"[rnd.Intn(4)]
	}
	return string(b)
}

// far are numbers beyond a span.
func far(s [2]int64) []int64 {
	return []int64{s[0] - 1, s[1] + 1, s[1] + 1<<32, math.MinInt64, math.MaxInt64, math.MinInt64 + s[1]}
}
