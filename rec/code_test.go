package rec_test

import (
	"bytes"
	"encoding/binary"
	"math/rand"
	"strings"
	"testing"

	"towpath/api"
	"towpath/rec"
)

// P3.2: the chapter's examples, and each form of a head.
func TestEncodeExamples(t *testing.T) {
	for _, c := range []struct {
		name, want string
		b          api.Batch
	}{
		{"example 1", encoded1, example1()},
		{"example 2", "01 02 00 03 02 07", rec.Mark(3, 2, true, 7)},
		{"an Abort", "01 03 00 03 02 07", rec.Mark(3, 2, false, 7)},
		{"a marker at the last numbers", "01 03 80 80 80 80 80 20 80 80 40 ff ff 01 80 80 80 80 80 20",
			api.Batch{Base: api.MaxOffset, Pid: api.MaxPid, Epoch: api.MaxEpoch, Kind: api.Abort, Time: api.MaxTime}},
		{"Plain of a producer", "01 00 01 02 03 04 05 01 00 00 00 00 00",
			api.Batch{Base: 1, Pid: 2, Epoch: 3, Seq: 4, Time: 5, L: []api.Record{{Time: 5}}}},
		{"Part at the last Seq", "01 01 00 01 00 ff ff ff ff 07 00 01 00 01 00 00",
			api.Batch{Pid: 1, Seq: api.MaxSeq, Kind: api.Part, L: []api.Record{{Gone: true}}}},
		{"times ahead and behind", "01 00 00 00 02 03 03 00 00 00 00 02 00 00 00 00 fc ff ff ff ff 3f 00 00 00 00",
			api.Batch{Time: 2, L: []api.Record{{}, {Time: 3}, {Time: api.MaxTime}}}},
		{"a key that goes on, the same key, one that is shorter, another one",
			"01 00 00 00 00 05 00 00 00 01 61 00 00 00 01 01 62 00 00 00 02 00 00 00 00 01 00 00 00 00 00 01 63 00",
			api.Batch{L: []api.Record{{Key: "a"}, {Key: "ab"}, {Key: "ab"}, {Key: "a"}, {Key: "c"}}}},
		{"a prefix of half a character", "01 00 00 00 00 02 00 00 00 02 c3 a9 00 00 00 01 01 aa 00",
			api.Batch{L: []api.Record{{Key: "\u00e9"}, {Key: "\u00ea"}}}},
		{"only the previous key counts", "01 00 00 00 00 03 00 00 00 01 61 00 00 00 00 00 00 00 00 00 01 61 00",
			api.Batch{L: []api.Record{{Key: "a"}, {}, {Key: "a"}}}},
	} {
		raw, err := rec.Encode(c.b)
		if err != api.OK || !bytes.Equal(raw, unhex(t, c.want)) || rec.Size(c.b) != len(raw) {
			t.Errorf("%s: % x, %d, Size %d, not %s", c.name, raw, err, rec.Size(c.b), c.want)
		}
		if b, err := rec.Decode(unhex(t, c.want)); err != api.OK || !equal(b, c.b) {
			t.Errorf("%s decodes to %+v, %d", c.name, b, err)
		}
	}
}

// P3.2: an error of Valid is Encode's, and there are no bytes beside it.
func TestEncodeErrors(t *testing.T) {
	for _, f := range faults() {
		b := owned(1)
		f.do(&b)
		if raw, err := rec.Encode(b); err != f.err || len(raw) > 0 || rec.Size(b) != 0 {
			t.Errorf("%s: % x, %d, Size %d", f.name, raw, err, rec.Size(b))
		}
	}
}

// P3.2 and P3.6: any valid batch is encoded as the model does it, and comes back.
func TestRoundTrip(t *testing.T) {
	rnd := rand.New(rand.NewSource(4))
	for n := 0; n < 3000; {
		b := someBatch(rnd)
		if modelValid(b) != api.OK {
			continue
		}
		n++
		raw, err := rec.Encode(b)
		if err != api.OK || !bytes.Equal(raw, modelEncode(b)) || rec.Size(b) != len(raw) {
			t.Fatalf("%+v: % x, %d, Size %d, not % x", b, raw, err, rec.Size(b), modelEncode(b))
		}
		back, err := rec.Decode(raw)
		if err != api.OK || !equal(back, b) || !rec.Same(back, b) {
			t.Fatalf("% x decodes to %+v, %d, not %+v", raw, back, err, b)
		}
	}
}

// head is how a batch of nobody begins, up to its records.
const head = "01 00 05 00 09 "

// P3.2: what is no encoding, each with one thing wrong.
func TestDecodeErrors(t *testing.T) {
	big := " ff ff ff ff ff ff ff ff ff 01 " // the greatest number of all
	for name, s := range map[string]string{
		"nothing":                              "",
		"another form: 0":                      "00 00 05 00 09 01 00 00 00 00 00",
		"another form: 2":                      "02 00 05 00 09 01 00 00 00 00 00",
		"a form of two bytes":                  "81 00 00 05 00 09 01 00 00 00 00 00",
		"Kind 4":                               "01 04 05 00 09 01 00 00 00 00 00",
		"Kind 4 as a marker":                   "01 04 00 03 02 07",
		"Kind 255":                             "01 ff 05 00 09 01 00 00 00 00 00",
		"a Kind of two bytes":                  "01 80 00 05 00 09 01 00 00 00 00 00",
		"Base above":                           "01 00 81 80 80 80 80 20 00 09 01 00 00 00 00 00",
		"Base far above":                       "01 00" + big + "00 09 01 00 00 00 00 00",
		"Base of more bits":                    "01 00 ff ff ff ff ff ff ff ff ff 02 00 09 01 00 00 00 00 00",
		"Pid above":                            "01 00 05 81 80 40 02 04 09 01 00 00 00 00 00",
		"Pid far above":                        "01 00 05" + big + "02 04 09 01 00 00 00 00 00",
		"Pid above that is 0 in 32 bits":       "01 00 05 80 80 80 80 10 09 01 00 00 00 00 00",
		"Epoch above":                          "01 00 05 01 80 80 02 04 09 01 00 00 00 00 00",
		"Epoch far above":                      "01 00 05 01" + big + "04 09 01 00 00 00 00 00",
		"Epoch above that is 0 in 32 bits":     "01 00 05 01 80 80 80 80 10 04 09 01 00 00 00 00 00",
		"Seq above":                            "01 00 05 01 02 80 80 80 80 08 09 01 00 00 00 00 00",
		"Seq far above":                        "01 00 05 01 02" + big + "09 01 00 00 00 00 00",
		"Time above":                           "01 00 05 00 81 80 80 80 80 20 01 00 00 00 00 00",
		"Time far above, brought back":         "01 00 05 00" + big + "01 02 00 00 00 00",
		"Part of nobody":                       "01 01 05 00 09 01 00 00 00 00 00",
		"a marker of nobody":                   "01 02 05 00 09",
		"a marker with a list":                 "01 02 00 03 02 07 00",
		"a marker with Seq":                    "01 02 00 03 02 00 07",
		"an Epoch of nobody":                   "01 00 05 00 00 00 09 01 00 00 00 00 00",
		"no records":                           head + "00",
		"fewer records than there should be":   head + "02 00 00 00 00 00",
		"more records than there should be":    head + "01 00 00 00 00 00 00 00 00 00 00",
		"65 records":                           head + "41 " + strings.Repeat("00 00 00 00 00 ", 65),
		"records without number":               head + big + "00 00 00 00 00",
		"a time below 0":                       head + "01 13 00 00 00 00",
		"a time above":                         head + "01 f0 ff ff ff ff 3f 00 00 00 00",
		"a time far below":                     head + "01 ff ff ff ff ff ff ff ff ff 01 00 00 00 00",
		"a time far above":                     head + "01 fe ff ff ff ff ff ff ff ff 01 00 00 00 00",
		"a flag 2":                             head + "01 00 02 00 00 00",
		"a prefix of nothing":                  head + "01 00 00 01 00 00",
		"a prefix longer than the last key":    head + "02 00 00 00 02 61 62 00 00 00 03 01 63 00",
		"a prefix far longer":                  head + "02 00 00 00 02 61 62 00 00 00" + big + "01 63 00",
		"a prefix that is too short":           head + "02 00 00 00 02 61 62 00 00 00 00 02 61 63 00",
		"a prefix that is one too short":       head + "02 00 00 00 02 61 62 00 00 00 01 02 62 63 00",
		"a prefix short of the whole last key": head + "02 00 00 00 02 61 62 00 00 00 00 02 61 62 00",
		"a value beside gone":                  head + "01 00 01 00 01 61 01 78",
		"a key that ends too soon":             head + "01 00 00 00 03 61 62",
		"a value that ends too soon":           head + "01 00 00 00 01 61 02 78",
		"a key without a length":               head + "01 00 00 00" + big,
		"a number of two bytes that fits one":  "01 00 85 00 00 09 01 00 00 00 00 00",
		"offsets run out":                      "01 00 80 80 80 80 80 20 00 09 02 00 00 00 00 00 00 00 00 00 00",
		"Seqs run out":                         "01 00 05 01 02 ff ff ff ff 07 09 02 00 00 00 00 00 00 00 00 00 00",
	} {
		if b, err := rec.Decode(unhex(t, s)); err != api.ErrForm || !equal(b, api.Batch{}) {
			t.Errorf("%s: %+v, %d", name, b, err)
		}
	}
	if b, err := rec.Decode(nil); err != api.ErrForm || !equal(b, api.Batch{}) {
		t.Errorf("nil: %+v, %d", b, err)
	}
}

// uvarint writes a number as the encoding has it.
func uvarint(n int) string { return string(binary.AppendUvarint(nil, uint64(n))) }

// P3.2: texts of MaxText bytes and one more, as bytes, and a key that is long by its prefix.
func TestDecodeLongTexts(t *testing.T) {
	start := "\x01\x00\x05\x00\x09"
	one, two := start+"\x01\x00\x00\x00", start+"\x02\x00\x00\x00"
	for _, c := range []struct {
		name, raw string
		want      api.Errno
	}{
		{"a key of MaxText", one + uvarint(1024) + long + "\x00", api.OK},
		{"a key of one more", one + uvarint(1025) + tooLong + "\x00", api.ErrForm},
		{"a value of MaxText", one + "\x00" + uvarint(1024) + long, api.OK},
		{"a value of one more", one + "\x00" + uvarint(1025) + tooLong, api.ErrForm},
		{"a prefix of MaxText", two + uvarint(1024) + long + "\x00\x00\x00" + uvarint(1024) + "\x00\x00", api.OK},
		{"a prefix of MaxText and a byte", two + uvarint(1024) + long + "\x00\x00\x00" + uvarint(1024) + "\x01y\x00", api.ErrForm},
		{"a prefix and so many that it is MaxText", two + uvarint(4) + "xxxx\x00\x00\x00" + uvarint(4) + uvarint(1020) + long[:1020] + "\x00", api.OK},
		{"a prefix and one more", two + uvarint(4) + "xxxx\x00\x00\x00" + uvarint(4) + uvarint(1021) + long[:1021] + "\x00", api.ErrForm},
	} {
		b, err := rec.Decode([]byte(c.raw))
		if err != c.want || err != api.OK && !equal(b, api.Batch{}) {
			t.Errorf("%s: %d, not %d", c.name, err, c.want)
		}
		if err == api.OK && string(modelEncode(b)) != c.raw {
			t.Errorf("%s: decodes to something else", c.name)
		}
	}
}

// encodings of all forms, short enough to be spoilt at each byte.
func encodings(t *testing.T) [][]byte {
	l := [][]byte{unhex(t, encoded1), unhex(t, "01 02 00 03 02 07")}
	for _, b := range []api.Batch{
		owned(1), owned(5), owned(64),
		rec.Mark(api.MaxPid, api.MaxEpoch, false, api.MaxTime),
		{Base: api.MaxOffset - 1, Pid: api.MaxPid, Epoch: api.MaxEpoch, Seq: api.MaxSeq - 1, Time: api.MaxTime, L: []api.Record{{Key: "k", Time: 0}, {Key: "ka", Gone: true, Time: api.MaxTime}}},
		{Time: 3, L: []api.Record{{Key: "aa", Value: "\x00\x01"}, {Key: "aa"}, {Key: "a", Gone: true}, {}, {Key: "\x01", Value: "2"}}},
	} {
		l = append(l, modelEncode(b))
	}
	return l
}

// stands checks that bytes either are no encoding or are the very one of the batch they decode to (P3.6).
func stands(t *testing.T, raw []byte) bool {
	t.Helper()
	b, err := rec.Decode(raw)
	if err != api.OK {
		if err != api.ErrForm || !equal(b, api.Batch{}) {
			t.Fatalf("% x: %+v, %d", raw, b, err)
		}
		return false
	}
	again, err := rec.Encode(b)
	if err != api.OK || !bytes.Equal(again, raw) || modelValid(b) != api.OK || !bytes.Equal(modelEncode(b), raw) {
		t.Fatalf("% x decodes to %+v, which is % x, %d", raw, b, again, err)
	}
	return true
}

// P3.9, and bytes that go on: neither a proper prefix nor a longer run of bytes is an encoding.
func TestCutOffAndGoingOn(t *testing.T) {
	for _, raw := range encodings(t) {
		if !stands(t, raw) {
			t.Fatalf("% x is no encoding", raw)
		}
		for n := range raw {
			if stands(t, raw[:n]) {
				t.Errorf("the first %d bytes of % x are an encoding", n, raw)
			}
		}
		for c := range 256 {
			if stands(t, append(bytes.Clone(raw), byte(c))) {
				t.Errorf("% x and %x are an encoding", raw, c)
			}
		}
		if stands(t, append(bytes.Clone(raw), raw...)) {
			t.Errorf("% x twice is an encoding", raw)
		}
	}
}

// P3.6: with any byte changed, put in or taken out it's none, or the only one of another batch.
func TestSpoiltBytes(t *testing.T) {
	for _, raw := range encodings(t) {
		step := 1
		if len(raw) > 100 {
			step = 9 // enough, and soon done
		}
		for i := range raw {
			for c := i % step; c < 256; c += step {
				if byte(c) != raw[i] {
					stands(t, bytes.Join([][]byte{raw[:i], {byte(c)}, raw[i+1:]}, nil))
				}
				stands(t, bytes.Join([][]byte{raw[:i], {byte(c)}, raw[i:]}, nil))
			}
			stands(t, bytes.Join([][]byte{raw[:i], raw[i+1:]}, nil))
		}
	}
}

// P3.6: any bytes at all.
func TestAnyBytes(t *testing.T) {
	rnd := rand.New(rand.NewSource(5))
	alphabet := []byte{0, 0, 0, 0, 1, 1, 1, 2, 2, 3, 4, 5, 0x61, 0x61, 0x62, 0x80, 0x81, 0xff}
	found := 0
	for range 300000 {
		raw := make([]byte, rnd.Intn(20))
		for i := range raw {
			raw[i] = alphabet[rnd.Intn(len(alphabet))]
		}
		if len(raw) > 3 && rnd.Intn(2) == 0 {
			raw[0], raw[1], raw[3] = 1, byte(rnd.Intn(4)), byte(rnd.Intn(2))
		}
		if stands(t, raw) {
			found++
		}
	}
	if found < 500 {
		t.Error("only", found, "encodings met")
	}
}

// Rules 4 and 5: the bytes are new, the argument stays, and the batch keeps none of it.
func TestCodeMemory(t *testing.T) {
	b := example1()
	raw, _ := rec.Encode(b)
	again, _ := rec.Encode(b)
	raw[0], raw[7] = 99, 99
	_ = append(raw, 99)
	if !bytes.Equal(again, unhex(t, encoded1)) || !equal(b, example1()) {
		t.Error("writing into an encoding changes another one, or the batch")
	}
	raw = append(make([]byte, 0, 100), again...)
	first, _ := rec.Decode(raw)
	second, _ := rec.Decode(raw)
	if !bytes.Equal(raw, unhex(t, encoded1)) {
		t.Error("Decode changes its argument")
	}
	for i := range raw {
		raw[i] = 99
	}
	if !equal(first, example1()) {
		t.Error("writing into the bytes changes what they decoded to")
	}
	first.L[0].Key = "other"
	_ = append(first.L, api.Record{})
	if !equal(second, example1()) {
		t.Error("writing into a decoded batch changes another one")
	}
	marks := [2][]byte{}
	for i := range marks {
		marks[i], _ = rec.Encode(rec.Mark(3, 2, true, 7))
	}
	marks[0][1] = 99
	if marks[1][1] != 2 {
		t.Error("markers share their bytes")
	}
}
