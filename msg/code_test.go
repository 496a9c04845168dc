package msg_test

import (
	"encoding/hex"
	"fmt"
	"math/rand"
	"reflect"
	"slices"
	"strings"
	"testing"

	"towpath/api"
	"towpath/msg"
	"towpath/offsets"
	"towpath/rec"
)

// The chapter's examples.
func TestExamples(t *testing.T) {
	m := msg.Msg{Head: msg.Head{Kind: msg.Beat, From: 101, To: 1, Id: 7}, Member: 3, Generation: 5}
	is(t, "Beat", m, "04 00 65 01 07 03 05")
	is(t, "its refusal", msg.Refuse(m, api.ErrGeneration), "04 01 01 65 07 1f")
	rows := with(reply(msg.Fetch), "Rows", []rec.At{at(3, "a", "b"), at(3, "c", "d")})
	want(t, "two rows of the same offset", msg.Valid(rows), api.ErrArg)
}

// is: a message has this body, and no other has it.
func is(t *testing.T, what string, m msg.Msg, want string) {
	t.Helper()
	raw, err := hex.DecodeString(strings.ReplaceAll(want, " ", ""))
	if err != nil {
		t.Fatal(err)
	}
	b, e := msg.Encode(m)
	if e != api.OK || string(b) != string(sealed(raw)) {
		t.Errorf("%s: Encode: %x, %d, not %x", what, b, e, sealed(raw))
	}
	if n, e := msg.Decode(sealed(raw)); e != api.OK || !reflect.DeepEqual(plain(n), plain(m)) {
		t.Errorf("%s: Decode: %+v, %d", what, n, e)
	}
}

// P16.1: the body of each kind, byte by byte.
func TestBodies(t *testing.T) {
	for i, body := range []string{
		"01 00 65 01 ac02 05 15 0101000302070902 00000002616201 78 0101010163",
		"01 01 65 01 ac02 00 0c 01",
		"01 01 65 01 ac02 08",
		"02 00 65 01 ac02 05 0c 08 01",
		"02 01 65 01 ac02 00 0c 0e 02 05 0d 010000000001 060000016b0176 a702 0b 010000000001 000100016b",
		"02 01 65 01 ac02 08",
		"03 00 65 01 ac02 0f 10 03 02 00 ac02",
		"03 01 65 01 ac02 00 10",
		"03 01 65 01 ac02 08",
		"04 00 65 01 ac02 0f 10",
		"04 01 65 01 ac02 00",
		"04 01 65 01 ac02 08",
		"05 00 65 01 ac02 0f",
		"05 01 65 01 ac02 00",
		"05 01 65 01 ac02 08",
		"06 00 65 01 ac02 0f 10",
		"06 01 65 01 ac02 00 03 02 00 ac02",
		"06 01 65 01 ac02 08",
		"07 00 65 01 ac02 02 7430 0d 0e",
		"07 01 65 01 ac02 00 0a 0b",
		"07 01 65 01 ac02 08",
		"08 00 65 01 ac02 0a 0b 03 02 00 ac02",
		"08 01 65 01 ac02 00",
		"08 01 65 01 ac02 08",
		"09 00 65 01 ac02 0a 0b 01",
		"09 01 65 01 ac02 00 0b",
		"09 01 65 01 ac02 08",
		"0a 00 65 01 ac02 0a 0b 0c 0f 10 02 04 6f303037 04 ac020205 04 6f303030 03 010205",
		"0a 01 65 01 ac02 00 01",
		"0a 01 65 01 ac02 08",
		"0b 00 65 01 ac02 05",
		"0b 01 65 01 ac02 00 0c 01",
		"0b 01 65 01 ac02 08",
		"0c 00 65 01 ac02 0a 0b 05 01",
		"0c 01 65 01 ac02 00 0a 0b 05 01",
		"0c 01 65 01 ac02 08",
	} {
		is(t, who(some()[i]), some()[i], body)
	}
	// Numbers of several bytes, and such with a sign.
	m := msg.Msg{Head: msg.Head{Kind: msg.Fetch, Reply: true, From: 999, To: 128, Id: api.MaxTime}, Offset: -1, Top: api.MaxOffset + 1}
	is(t, "numbers", m, "02 01 e707 8001 808080808020 00 01 828080808040 00")
	m = msg.Msg{Head: msg.Head{Kind: msg.Offset, Reply: true}, Offset: -1}
	is(t, "an offset below 0", m, "0b 01 00 00 00 00 01 00")
}

// P16.3: whatever is decoded has these bytes as its encoding.
func sound(t *testing.T, what string, body []byte) bool {
	t.Helper()
	m, err := msg.Decode(sealed(body))
	if err != api.OK {
		if err != api.ErrForm || !reflect.DeepEqual(plain(m), msg.Msg{}) {
			t.Errorf("%s: Decode(%x): %+v, %d", what, cut(body), m, err)
		}
		return false
	}
	b, err := msg.Encode(m)
	if err != api.OK || string(b) != string(sealed(body)) || msg.Valid(m) != api.OK {
		t.Errorf("%s: Decode(%x): %+v, then Encode: %x, %d", what, cut(body), m, cut(b), err)
	}
	return true
}

// P16.3: bodies of which one byte is changed, to any other one; is put in, or left out.
func TestDecodeChanged(t *testing.T) {
	for _, m := range some() {
		b := body(m)
		for i := range b {
			for v := range 256 {
				c := slices.Clone(b)
				c[i] = byte(v)
				sound(t, who(m), c)
				sound(t, who(m), slices.Insert(slices.Clone(b), i, byte(v)))
			}
			sound(t, who(m), slices.Delete(slices.Clone(b), i, i+1))
		}
	}
}

// P16.1: bodies that are cut off, or go on.
func TestDecodeCut(t *testing.T) {
	for _, m := range some() {
		b := body(m)
		for i := range b {
			undecoded(t, who(m)+", cut off", b[:i])
		}
		for _, more := range [][]byte{{0}, {1}, {128}, {255}, b} {
			undecoded(t, who(m)+", goes on", slices.Concat(b, more))
		}
	}
	undecoded(t, "nothing", nil)
}

// Rule 8: each number of each message in more bytes than it needs, and each flag that is none.
func TestDecodeForms(t *testing.T) {
	for _, m := range some() {
		b := body(m)
		for i := 2; i < len(b); i++ { // behind the kind and the flag
			if b[i] < 128 {
				long := slices.Concat(b[:i], []byte{b[i] | 128, 0}, b[i+1:])
				sound(t, who(m)+", a long form", long)
				if i < 6 {
					undecoded(t, who(m)+", a long form in the header", long)
				}
			}
		}
		for _, v := range []byte{2, 3, 0x80, 0xff} {
			c := slices.Clone(b)
			c[1] = v
			undecoded(t, who(m)+", a flag that is none", c)
		}
		c := slices.Clone(b)
		c[0] |= 128
		undecoded(t, who(m)+", a kind that is none", c)
	}
	head := []byte{msg.End, 0, 1, 2, 3}
	undecoded(t, "a flag of 2", append(head, 4, 5, 2))
	undecoded(t, "a long pid", append(head, 0x84, 0, 5, 1))
	head = []byte{msg.Leave, 0, 1, 2, 3}
	for _, n := range [][]byte{{0x85, 0}, {0x80}, {0x80, 0x80, 0x80, 0x80, 0x80, 0x80, 0x80, 0x80, 0x80, 1}, {0xff, 0xff, 0xff, 0xff, 0xff, 0xff, 0xff, 0xff, 0xff, 1}, {0x85, 0x80, 0x80, 0x80, 0x10}, {0xff, 0xff, 0xff, 0xff, 0xff, 0xff, 0xff, 0xff, 0xff, 2}} {
		undecoded(t, "a strange member", slices.Concat(head, n))
	}
}

// P16.1: lists whose sizes are not those of what follows, great ones too.
func TestDecodeSizes(t *testing.T) {
	great := []int64{127, 128, 300, 301, 65536, 65537, api.MaxBody, api.MaxBody + 1, 1 << 31, 1 << 32, 1<<62 + 1, -1 << 63, -1}
	for _, c := range []struct {
		what string
		m    msg.Msg
		name string
	}{
		{"name", request(msg.Init), "Name"},
		{"batch", request(msg.Produce), "Batch"},
		{"rows", reply(msg.Fetch), "Rows"},
		{"numbers of a Join", request(msg.Join), "Ints"},
		{"numbers of Parts", reply(msg.Parts), "Ints"},
		{"commits", request(msg.Commit), "Commits"},
	} {
		b, p := body(c.m), part(c.m, c.name)
		i := strings.Index(string(b), string(p))
		for n := int64(0); n < 30; n++ {
			if n != int64(p[0]) {
				undecoded(t, fmt.Sprint(c.what, ", of which there are not ", n), slices.Concat(b[:i], uint(n), b[i+1:]))
			}
		}
		for _, n := range great {
			undecoded(t, fmt.Sprint(c.what, ", of which there are not ", n), slices.Concat(b[:i], uint(n), b[i+1:]))
		}
	}
	for name, m := range map[string]msg.Msg{"Rows": reply(msg.Fetch), "Ints": reply(msg.Parts)} {
		empty := with(m, name, reflect.Zero(field(&m, name).Type()).Interface())
		b := body(empty)
		undecoded(t, name+" that go on to the end of a body", slices.Concat(b[:len(b)-1], uint(1<<40), make([]byte, api.MaxBody-100)))
	}
	many := with(reply(msg.Parts), "Ints", make([]int, 301))
	undecoded(t, "301 numbers", body(many))
}

// P16.1: rows that are none: batches of other records than one, with more to say than it, and offsets that come round.
func TestDecodeRows(t *testing.T) {
	r := api.Record{Key: "k", Value: "v", Time: 3}
	head := body(msg.Msg{Head: msg.Head{Kind: msg.Fetch, Reply: true}, Offset: 1, Top: 2})
	rows := func(l ...[]byte) []byte {
		b := append(slices.Clone(head[:len(head)-1]), byte(len(l)))
		return append(b, slices.Concat(l...)...)
	}
	row := func(delta int64, b api.Batch) []byte { return append(uint(delta), text(string(batch(b)))...) }
	one := api.Batch{L: []api.Record{r}}
	if !sound(t, "one row", rows(row(0, one))) || !sound(t, "two rows", rows(row(5, one), row(1, one))) {
		t.Error("good rows are none")
	}
	for what, b := range map[string]api.Batch{
		"two records":       {L: []api.Record{r, r}},
		"no records":        {},
		"a Base":            {Base: 1, L: []api.Record{r}},
		"a Time":            {Time: 3, L: []api.Record{r}},
		"a producer":        {Pid: 1, L: []api.Record{r}},
		"an epoch":          {Pid: 1, Epoch: 1, L: []api.Record{r}},
		"a transaction":     {Kind: api.Part, Pid: 1, L: []api.Record{r}},
		"a marker":          rec.Mark(1, 0, true, 0),
		"a marker of 0":     {Kind: api.Commit},
		"a record too late": {L: []api.Record{{Time: api.MaxTime + 1}}},
		"a record too soon": {L: []api.Record{{Time: -1}}},
	} {
		undecoded(t, what, rows(row(4, b)))
		undecoded(t, what+", behind a good one", rows(row(4, one), row(4, b)))
		undecoded(t, what+", ahead of a good one", rows(row(4, b), row(4, one)))
	}
	gone := batch(api.Batch{L: []api.Record{{Key: "k", Gone: true}}})
	undecoded(t, "gone with a value", rows(append(uint(4), text(string(gone)+"\x00")...)))
	undecoded(t, "a batch that is cut off", rows(append(uint(4), text(string(gone[:len(gone)-1]))...)))
	undecoded(t, "a batch without bytes", rows(append(uint(4), 0)))
	for _, delta := range []int64{0, -1, -5, api.MaxOffset - 4, api.MaxOffset, 1 << 62, -1 << 63, 1<<63 - 1} {
		undecoded(t, fmt.Sprint("a second row ", delta, " further"), rows(row(5, one), row(delta, one)))
		undecoded(t, fmt.Sprint("a second row ", delta, " further, and a third one"), rows(row(5, one), row(delta, one), row(-delta+1, one)))
	}
	for _, first := range []int64{-1, api.MaxOffset + 1, 1 << 62, -1 << 63} {
		undecoded(t, fmt.Sprint("a first row at ", first), rows(row(first, one)))
		undecoded(t, fmt.Sprint("a first row at ", first, ", and one behind it"), rows(row(first, one), row(-first, one)))
	}
}

// P16.1: commits that are none.
func TestDecodeCommits(t *testing.T) {
	m := with(request(msg.Commit), "Commits", []offsets.Commit(nil))
	head := body(m)
	commits := func(l ...string) []byte {
		b := append(slices.Clone(head[:len(head)-1]), byte(len(l)/2))
		for _, s := range l {
			b = append(b, text(s)...)
		}
		return b
	}
	good := "\xac\x02\x02\x05"
	if !sound(t, "one commit", commits("o007", good)) || !sound(t, "two", commits("o007", good, "o007", "\x00\x00\x00")) {
		t.Error("good commits are none")
	}
	for _, key := range []string{"", "o", "o7", "o07", "o0007", "o256", "o999", "p007", "O007", "o-07", "o+07", "o 07", "o00a", "007", strings.Repeat("o", 1100)} {
		undecoded(t, "a key "+key, commits(key, good))
		undecoded(t, "a key "+key, commits("o001", good, key, good))
	}
	for _, value := range []string{"", "\xac\x02\x02", "\xac\x02\x02\x05\x00", "\xac\x02\x41\x05", "\x80\x00\x02\x05", "\x05\x82\x00\x05", "\x05\x02\x80\x80\x80\x80\x08", "\x81\x80\x80\x80\x80\x20\x02\x05", strings.Repeat("\x00", 1100)} {
		undecoded(t, fmt.Sprintf("a value %x", value), commits("o007", value))
		undecoded(t, fmt.Sprintf("a value %x", value), commits("o007", value, "o007", good))
	}
	list := []string{}
	for range 65 {
		list = append(list, "o007", good)
	}
	if !sound(t, "64 commits", commits(list[:128]...)) {
		t.Error("64 commits are none")
	}
	undecoded(t, "65 commits", commits(list...))
}

// P16.4: bytes that are cut off, go on, or have some bits changed that lie within 32; what is no frame.
func TestCorrupted(t *testing.T) {
	rnd := rand.New(rand.NewSource(1))
	none := func(what string, b []byte) {
		t.Helper()
		if m, err := msg.Decode(b); err != api.ErrForm || !reflect.DeepEqual(plain(m), msg.Msg{}) {
			t.Errorf("%s: Decode(%x): %+v, %d", what, b, m, err)
		}
	}
	for _, m := range some() {
		b, _ := msg.Encode(m)
		for i := range b {
			none(who(m)+", cut off", b[:i])
			none(who(m)+", cut off ahead", b[i+1:])
			for v := 1; v < 256; v++ {
				c := slices.Clone(b)
				c[i] ^= byte(v)
				none(who(m)+", one byte changed", c)
			}
		}
		for _, more := range [][]byte{{0}, {1}, make([]byte, 9), b} {
			none(who(m)+", goes on", slices.Concat(b, more))
			none(who(m)+", begins later", slices.Concat(more, b))
		}
		for range 500 {
			c := slices.Clone(b)
			bits := uint64(1+rnd.Int63n(1<<32-1)) << rnd.Intn(8)
			at := rnd.Intn(len(b) - 4)
			for i := range 5 {
				c[at+i] ^= byte(bits >> (8 * i))
			}
			none(who(m)+", bits changed", c)
		}
		none(who(m)+", a body alone", body(m))
	}
	none("nil", nil)
	none("text", []byte("no message"))
	none("an empty frame", sealed(nil))
}

// P16.1, P16.3: messages by chance, beside the chapter's encoding; and bodies by chance.
func TestMany(t *testing.T) {
	for seed := range int64(3000) {
		rnd := rand.New(rand.NewSource(seed))
		m := anyMsg(rnd)
		if b := body(m); len(b) > api.MaxBody {
			refused(t, "too long", m, api.ErrLong)
		} else {
			alike(t, who(m), m)
		}
		if t.Failed() {
			t.Fatal("seed", seed)
		}
	}
	rnd := rand.New(rand.NewSource(5))
	known := 0
	for range 200000 {
		b := make([]byte, rnd.Intn(14))
		for i := range b {
			b[i] = byte(rnd.Intn(8) - rnd.Intn(40)/39*rnd.Intn(8))
		}
		if len(b) > 1 {
			b[0], b[1] = byte(rnd.Intn(14)), byte(rnd.Intn(2))
		}
		if sound(t, "by chance", b) {
			known++
		}
	}
	if known < 500 {
		t.Error("only", known, "were messages")
	}
}
