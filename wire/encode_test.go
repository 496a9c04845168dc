package wire_test

import (
	"bytes"
	"encoding/binary"
	"encoding/hex"
	"math"
	"strings"
	"testing"

	"towpath/api"
	"towpath/wire"
)

// The calls keep the signatures that the chapter lists.
var (
	_ func(uint64) []byte                            = wire.Uint
	_ func(int64) []byte                             = wire.Int
	_ func(string) []byte                            = wire.Text
	_ func(bool) []byte                              = wire.Flag
	_ func(...[]byte) []byte                         = wire.Join
	_ func(...string) []byte                         = wire.Texts
	_ func(...int64) []byte                          = wire.Ints
	_ func([]byte) *wire.Reader                      = wire.NewReader
	_ func(*wire.Reader) uint64                      = (*wire.Reader).Uint
	_ func(*wire.Reader) int64                       = (*wire.Reader).Int
	_ func(*wire.Reader, int) string                 = (*wire.Reader).Text
	_ func(*wire.Reader) bool                        = (*wire.Reader).Flag
	_ func(*wire.Reader) int                         = (*wire.Reader).Byte
	_ func(*wire.Reader, int) []byte                 = (*wire.Reader).Bytes
	_ func(r *wire.Reader, count, most int) []string = (*wire.Reader).Texts
	_ func(*wire.Reader, int) []int64                = (*wire.Reader).Ints
	_ func(r *wire.Reader, lo, hi int64) int64       = (*wire.Reader).Within
	_ func(*wire.Reader) []byte                      = (*wire.Reader).Rest
	_ func(*wire.Reader) api.Errno                   = (*wire.Reader).End
	_ func(*wire.Reader) int                         = (*wire.Reader).At
	_ func(*wire.Reader) int                         = (*wire.Reader).Left
	_ func(*wire.Reader) api.Errno                   = (*wire.Reader).Err
)

func unhex(t *testing.T, s string) []byte {
	t.Helper()
	b, err := hex.DecodeString(strings.ReplaceAll(s, " ", ""))
	if err != nil {
		t.Fatal(err)
	}
	return b
}

func checkBytes(t *testing.T, what string, got []byte, want string) {
	t.Helper()
	if !bytes.Equal(got, unhex(t, want)) {
		t.Errorf("%s: % x, not %s", what, got, want)
	}
}

// P1.1: numbers of 1 to 10 bytes, at both ends of each length.
func TestUint(t *testing.T) {
	for _, c := range []struct {
		n    uint64
		want string
	}{
		{0, "00"},
		{1, "01"},
		{2, "02"},
		{127, "7f"},
		{128, "80 01"},
		{129, "81 01"},
		{255, "ff 01"},
		{256, "80 02"},
		{300, "ac 02"},
		{1<<14 - 1, "ff 7f"},
		{1 << 14, "80 80 01"},
		{1<<21 - 1, "ff ff 7f"},
		{1 << 21, "80 80 80 01"},
		{1<<28 - 1, "ff ff ff 7f"},
		{1 << 28, "80 80 80 80 01"},
		{math.MaxUint32, "ff ff ff ff 0f"},
		{1<<35 - 1, "ff ff ff ff 7f"},
		{1 << 35, "80 80 80 80 80 01"},
		{1<<42 - 1, "ff ff ff ff ff 7f"},
		{1 << 42, "80 80 80 80 80 80 01"},
		{1<<49 - 1, "ff ff ff ff ff ff 7f"},
		{1 << 49, "80 80 80 80 80 80 80 01"},
		{1<<56 - 1, "ff ff ff ff ff ff ff 7f"},
		{1 << 56, "80 80 80 80 80 80 80 80 01"},
		{1<<63 - 1, "ff ff ff ff ff ff ff ff 7f"},
		{1 << 63, "80 80 80 80 80 80 80 80 80 01"},
		{math.MaxUint64, "ff ff ff ff ff ff ff ff ff 01"},
	} {
		checkBytes(t, "Uint", wire.Uint(c.n), c.want)
	}
}

// P1.1: 2n for n from 0 on, -2n - 1 below.
func TestInt(t *testing.T) {
	for _, c := range []struct {
		n    int64
		want string
	}{
		{0, "00"},
		{-1, "01"},
		{1, "02"},
		{-2, "03"},
		{2, "04"},
		{63, "7e"},
		{-64, "7f"},
		{64, "80 01"},
		{-65, "81 01"},
		{150, "ac 02"},
		{-151, "ad 02"},
		{1 << 40, "80 80 80 80 80 40"},
		{math.MaxInt64, "fe ff ff ff ff ff ff ff ff 01"},
		{math.MinInt64, "ff ff ff ff ff ff ff ff ff 01"},
	} {
		checkBytes(t, "Int", wire.Int(c.n), c.want)
	}
}

// P1.1: a length, then the bytes as they are.
func TestText(t *testing.T) {
	checkBytes(t, "Text of nothing", wire.Text(""), "00")
	checkBytes(t, "Text", wire.Text("ab"), "02 61 62")
	checkBytes(t, "Text of any bytes", wire.Text("\x00\xff\x80"), "03 00 ff 80")
	checkBytes(t, "Text counts bytes", wire.Text("\u00e9"), "02 c3 a9")
	long := strings.Repeat("x", 300)
	if b := wire.Text(long); string(b) != "\xac\x02"+long {
		t.Errorf("Text of 300 bytes: % x", b)
	}
}

func TestFlag(t *testing.T) {
	checkBytes(t, "Flag(true)", wire.Flag(true), "01")
	checkBytes(t, "Flag(false)", wire.Flag(false), "00")
}

func TestJoin(t *testing.T) {
	checkBytes(t, "Join of nothing", wire.Join(), "")
	checkBytes(t, "Join of nil", wire.Join(nil), "")
	checkBytes(t, "Join of one", wire.Join([]byte{7, 8}), "07 08")
	checkBytes(t, "Join", wire.Join([]byte{1}, nil, []byte{2, 3}, []byte{}, []byte{1}), "01 02 03 01")
}

func TestTexts(t *testing.T) {
	checkBytes(t, "Texts of nothing", wire.Texts(), "00")
	checkBytes(t, "Texts", wire.Texts("", "b"), "02 00 01 62")
	checkBytes(t, "Texts", wire.Texts("b", "", "cd"), "03 01 62 00 02 63 64")
	if b := wire.Texts(make([]string, 200)...); !bytes.Equal(b, append([]byte{0xc8, 1}, make([]byte, 200)...)) {
		t.Errorf("Texts of 200: % x", b)
	}
}

func TestInts(t *testing.T) {
	checkBytes(t, "Ints of nothing", wire.Ints(), "00")
	checkBytes(t, "Ints", wire.Ints(-2, 150, 0), "03 03 ac 02 00")
	checkBytes(t, "Ints", wire.Ints(math.MinInt64), "01 ff ff ff ff ff ff ff ff ff 01")
	if b := wire.Ints(make([]int64, 128)...); !bytes.Equal(b, append([]byte{0x80, 1}, make([]byte, 128)...)) {
		t.Errorf("Ints of 128: % x", b)
	}
}

// someNumbers: those at and beside each power of 2.
func someNumbers() []uint64 {
	l := []uint64{0, math.MaxUint64}
	for i := range 64 {
		for d := range uint64(5) {
			l = append(l, uint64(1)<<i+d-2)
		}
	}
	return l
}

// P1.1, held against the library's encoding of the same form.
func TestNumbersByTheLibrary(t *testing.T) {
	for _, n := range someNumbers() {
		if got, want := wire.Uint(n), binary.AppendUvarint(nil, n); !bytes.Equal(got, want) {
			t.Errorf("Uint(%d): % x, not % x", n, got, want)
		}
		if got, want := wire.Int(int64(n)), binary.AppendVarint(nil, int64(n)); !bytes.Equal(got, want) {
			t.Errorf("Int(%d): % x, not % x", int64(n), got, want)
		}
	}
}

// P1.6: two numbers have the same encoding only if they are equal, and none is a prefix of another one.
func TestUniqueEncoding(t *testing.T) {
	l := someNumbers()
	for _, encode := range []func(uint64) []byte{wire.Uint, func(n uint64) []byte { return wire.Int(int64(n)) }} {
		for _, a := range l {
			for _, b := range l {
				if a != b && bytes.HasPrefix(encode(a), encode(b)) {
					t.Errorf("%d: % x begins as %d: % x", a, encode(a), b, encode(b))
				}
			}
		}
	}
}

// Rules 4 and 5: arguments stay as they are, and results are memory of their own.
func TestEncodedIsNewMemory(t *testing.T) {
	part, other := make([]byte, 2, 8), []byte{3}
	part[0], part[1] = 1, 2
	for _, joined := range [][]byte{wire.Join(part), wire.Join(part, other), wire.Join(nil, part)} {
		_ = append(joined, 99)
		joined[0], joined[1] = 50, 51
		if part[0] != 1 || part[1] != 2 || part[:3][2] != 0 || other[0] != 3 {
			t.Fatal("Join shares memory with a part", part[:3], other)
		}
	}
	joined := wire.Join(part, other)
	part[0], other[0] = 9, 9
	checkBytes(t, "Join, its parts written to", joined, "01 02 03")

	texts, ints := []string{"a", "b"}, []int64{1, -1}
	wire.Texts(texts...)[1] = 77
	wire.Ints(ints...)[1] = 77
	if texts[0] != "a" || texts[1] != "b" || ints[0] != 1 || ints[1] != -1 {
		t.Error("an argument is changed", texts, ints)
	}
	for what, encode := range map[string]func() []byte{
		"Uint":        func() []byte { return wire.Uint(5) },
		"Int":         func() []byte { return wire.Int(5) },
		"Text":        func() []byte { return wire.Text("ab") },
		"Flag, true":  func() []byte { return wire.Flag(true) },
		"Flag, false": func() []byte { return wire.Flag(false) },
		"Texts":       func() []byte { return wire.Texts() },
		"Ints":        func() []byte { return wire.Ints() },
	} {
		first, second := encode(), encode()
		want := bytes.Clone(second)
		first[0]++
		_ = append(first, 99)
		if !bytes.Equal(second, want) || !bytes.Equal(encode(), want) {
			t.Errorf("%s: writing into a result changes another one", what)
		}
	}
}
