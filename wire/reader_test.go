package wire_test

import (
	"bytes"
	"fmt"
	"math"
	"reflect"
	"strings"
	"testing"

	"towpath/api"
	"towpath/wire"
)

// A call of a reader, its result told as a text: "" where it is the zero value.
type call struct {
	name string
	ask  func(r *wire.Reader) string
}

func tell(v any) string {
	x := reflect.ValueOf(v)
	if x.IsZero() || x.Kind() == reflect.Slice && x.Len() == 0 {
		return ""
	}
	if b, ok := v.([]byte); ok {
		return fmt.Sprintf("% x", b)
	}
	return fmt.Sprintf("%v", v)
}

func callUint() call { return call{"Uint", func(r *wire.Reader) string { return tell(r.Uint()) }} }
func callInt() call  { return call{"Int", func(r *wire.Reader) string { return tell(r.Int()) }} }
func callFlag() call { return call{"Flag", func(r *wire.Reader) string { return tell(r.Flag()) }} }
func callByte() call { return call{"Byte", func(r *wire.Reader) string { return tell(r.Byte()) }} }
func callRest() call { return call{"Rest", func(r *wire.Reader) string { return tell(r.Rest()) }} }

func callText(most int) call {
	return call{fmt.Sprintf("Text(%d)", most), func(r *wire.Reader) string { return tell(r.Text(most)) }}
}

func callBytes(n int) call {
	return call{fmt.Sprintf("Bytes(%d)", n), func(r *wire.Reader) string { return tell(r.Bytes(n)) }}
}

func callTexts(count, most int) call {
	return call{fmt.Sprintf("Texts(%d, %d)", count, most), func(r *wire.Reader) string {
		l := r.Texts(count, most)
		if len(l) == 0 {
			return ""
		}
		return fmt.Sprintf("%q", l)
	}}
}

func callInts(count int) call {
	return call{fmt.Sprintf("Ints(%d)", count), func(r *wire.Reader) string { return tell(r.Ints(count)) }}
}

func callWithin(lo, hi int64) call {
	return call{fmt.Sprintf("Within(%d, %d)", lo, hi), func(r *wire.Reader) string { return tell(r.Within(lo, hi)) }}
}

// allCalls: each one with arguments as they should be, and with extreme ones.
func allCalls() []call {
	l := []call{callUint(), callInt(), callFlag(), callByte(), callRest()}
	for _, n := range []int{math.MinInt, -1, 0, 1, 9, math.MaxInt} {
		l = append(l, callText(n), callBytes(n), callInts(n), callTexts(n, 9), callTexts(9, n), callTexts(n, n))
		l = append(l, callWithin(int64(n), math.MaxInt64), callWithin(math.MinInt64, int64(n)))
	}
	return l
}

func checkState(t *testing.T, what string, r *wire.Reader, at, left int, err api.Errno) {
	t.Helper()
	if r.At() != at || r.Left() != left || r.Err() != err {
		t.Errorf("%s: At %d, Left %d, Err %d, not %d, %d, %d", what, r.At(), r.Left(), r.Err(), at, left, err)
	}
}

const tenth = "ff ff ff ff ff ff ff ff ff" // nine bytes of a number that goes on

// P1.2, P1.3: what is decoded, from a place that is not the beginning, with more behind it.
func TestDecodes(t *testing.T) {
	for _, c := range []struct {
		bytes string
		call  call
		want  string
	}{
		{"00", callUint(), ""},
		{"01", callUint(), "1"},
		{"7f", callUint(), "127"},
		{"80 01", callUint(), "128"},
		{"ac 02", callUint(), "300"},
		{"ff ff ff ff 0f", callUint(), "4294967295"},
		{"80 80 80 80 80 80 80 80 80 01", callUint(), "9223372036854775808"},
		{tenth + "01", callUint(), "18446744073709551615"},
		{"00", callInt(), ""},
		{"01", callInt(), "-1"},
		{"02", callInt(), "1"},
		{"03", callInt(), "-2"},
		{"ac 02", callInt(), "150"},
		{"fe ff ff ff ff ff ff ff ff 01", callInt(), "9223372036854775807"},
		{tenth + "01", callInt(), "-9223372036854775808"},
		{"00", callFlag(), ""},
		{"01", callFlag(), "true"},
		{"00", callByte(), ""},
		{"02", callByte(), "2"},
		{"80", callByte(), "128"},
		{"ff", callByte(), "255"},
		{"00", callText(0), ""},
		{"00", callText(-1), ""},
		{"00", callText(math.MinInt), ""},
		{"02 61 62", callText(2), "ab"},
		{"02 61 62", callText(3), "ab"},
		{"02 61 62", callText(math.MaxInt), "ab"},
		{"03 00 ff 80", callText(9), "\x00\xff\x80"},
		{"", callBytes(0), ""},
		{"61", callBytes(1), "61"},
		{"80 ff 00", callBytes(3), "80 ff 00"},
		{"00", callTexts(0, 0), ""},
		{"00", callTexts(-1, 5), ""},
		{"00", callTexts(5, -1), ""},
		{"00", callTexts(math.MinInt, math.MinInt), ""},
		{"02 00 01 62", callTexts(2, 1), `["" "b"]`},
		{"02 00 01 62", callTexts(3, 2), `["" "b"]`},
		{"02 00 01 62", callTexts(math.MaxInt, math.MaxInt), `["" "b"]`},
		{"02 00 00", callTexts(2, 0), `["" ""]`},
		{"02 00 00", callTexts(2, -7), `["" ""]`},
		{"00", callInts(0), ""},
		{"00", callInts(-1), ""},
		{"03 03 ac 02 00", callInts(3), "[-2 150 0]"},
		{"03 03 ac 02 00", callInts(4), "[-2 150 0]"},
		{"01" + tenth + "01", callInts(math.MaxInt), "[-9223372036854775808]"},
		{"03", callWithin(-2, -2), "-2"},
		{"03", callWithin(-2, 9), "-2"},
		{"03", callWithin(-9, -2), "-2"},
		{"00", callWithin(0, 0), ""},
		{tenth + "01", callWithin(math.MinInt64, math.MinInt64), "-9223372036854775808"},
		{"fe ff ff ff ff ff ff ff ff 01", callWithin(math.MaxInt64, math.MaxInt64), "9223372036854775807"},
	} {
		n := len(unhex(t, c.bytes))
		what := c.call.name + " of " + c.bytes
		r := wire.NewReader(unhex(t, "7f"+c.bytes+"55 01"))
		r.Byte()
		if got := c.call.ask(r); got != c.want {
			t.Errorf("%s: %q, not %q", what, got, c.want)
		}
		checkState(t, what, r, 1+n, 2, api.OK)
		if got := r.Byte(); got != 0x55 {
			t.Errorf("%s: then byte %x", what, got)
		}
		r = wire.NewReader(unhex(t, c.bytes))
		if got := c.call.ask(r); got != c.want {
			t.Errorf("%s, at the end: %q, not %q", what, got, c.want)
		}
		checkState(t, what+", at the end", r, n, 0, api.OK)
	}
}

// P1.2, P1.3, P1.7: what can't be decoded, and the error that is named first. Nothing follows the bytes.
func TestRefuses(t *testing.T) {
	for _, c := range []struct {
		bytes string
		call  call
		want  api.Errno
	}{
		{"", callUint(), api.ErrForm},
		{"80", callUint(), api.ErrForm},
		{"ac", callUint(), api.ErrForm},
		{"80 00", callUint(), api.ErrForm},
		{"80 00 01", callUint(), api.ErrForm},
		{"ff 00", callUint(), api.ErrForm},
		{"80 80 00", callUint(), api.ErrForm},
		{tenth, callUint(), api.ErrForm},
		{tenth + "00", callUint(), api.ErrForm},
		{tenth + "02", callUint(), api.ErrForm},
		{tenth + "03", callUint(), api.ErrForm},
		{tenth + "7f", callUint(), api.ErrForm},
		{tenth + "80", callUint(), api.ErrForm},
		{tenth + "81", callUint(), api.ErrForm},
		{tenth + "80 01", callUint(), api.ErrForm},
		{tenth + "81 00", callUint(), api.ErrForm},
		{tenth + tenth + "01", callUint(), api.ErrForm},
		{"", callInt(), api.ErrForm},
		{"ad", callInt(), api.ErrForm},
		{"81 00", callInt(), api.ErrForm},
		{tenth + "02", callInt(), api.ErrForm},
		{tenth + "81 01", callInt(), api.ErrForm},
		{"", callByte(), api.ErrForm},
		{"", callFlag(), api.ErrForm},
		{"02", callFlag(), api.ErrForm},
		{"80", callFlag(), api.ErrForm},
		{"81 00", callFlag(), api.ErrForm},
		{"ff", callFlag(), api.ErrForm},
		{"", callText(9), api.ErrForm},
		{"82", callText(9), api.ErrForm},
		{"82 00 61 62", callText(9), api.ErrForm},
		{"82 00 61 62", callText(1), api.ErrForm},
		{"82 00 61 62", callText(-1), api.ErrForm},
		{"03 61", callText(9), api.ErrForm},
		{"03 61", callText(3), api.ErrForm},
		{"03 61", callText(2), api.ErrLong},
		{"03 61", callText(0), api.ErrLong},
		{"03 61", callText(-1), api.ErrLong},
		{"03 61 62 63", callText(2), api.ErrLong},
		{"01 61", callText(0), api.ErrLong},
		{"01 61", callText(math.MinInt), api.ErrLong},
		{tenth + "01 61", callText(math.MaxInt), api.ErrLong},
		{tenth + "01 61", callText(-1), api.ErrLong},
		{"80 80 80 80 80 80 80 80 80 01", callText(math.MaxInt), api.ErrLong},
		{"ff ff ff ff ff ff ff ff 7f 61", callText(math.MaxInt), api.ErrForm},
		{"", callBytes(-1), api.ErrArg},
		{"61 62", callBytes(-1), api.ErrArg},
		{"61 62", callBytes(math.MinInt), api.ErrArg},
		{"", callBytes(1), api.ErrForm},
		{"61 62", callBytes(3), api.ErrForm},
		{"61 62", callBytes(math.MaxInt), api.ErrForm},
		{"", callTexts(9, 9), api.ErrForm},
		{"82", callTexts(9, 9), api.ErrForm},
		{"82 00 00 00", callTexts(1, 9), api.ErrForm},
		{"02 00 01 62", callTexts(1, 9), api.ErrLong},
		{"01 00", callTexts(0, 9), api.ErrLong},
		{"01 00", callTexts(-1, 9), api.ErrLong},
		{"02", callTexts(1, 9), api.ErrLong},
		{"02 81 00", callTexts(1, 9), api.ErrLong},
		{"02 00", callTexts(9, 9), api.ErrForm},
		{"02 00 01", callTexts(9, 9), api.ErrForm},
		{"02 00 01 62", callTexts(2, 0), api.ErrLong},
		{"02 00 01 62", callTexts(2, -1), api.ErrLong},
		{"03 01 61 02 62 63 82 00", callTexts(3, 1), api.ErrLong},
		{"03 01 61 82 00 02 62 63", callTexts(3, 1), api.ErrForm},
		{tenth + "01 00", callTexts(math.MaxInt, 9), api.ErrLong},
		{"ff ff ff ff ff ff ff ff 7f 00 00", callTexts(math.MaxInt, 9), api.ErrForm},
		{"ff ff ff ff ff ff ff ff 7f 00 02 61 62", callTexts(math.MaxInt, 1), api.ErrLong},
		{"", callInts(9), api.ErrForm},
		{"81 00 00", callInts(9), api.ErrForm},
		{"81 00 00", callInts(0), api.ErrForm},
		{"02 00 00", callInts(1), api.ErrLong},
		{"01 00", callInts(0), api.ErrLong},
		{"01 00", callInts(math.MinInt), api.ErrLong},
		{"02", callInts(1), api.ErrLong},
		{"02 00", callInts(2), api.ErrForm},
		{"02 00 80 00", callInts(2), api.ErrForm},
		{"02 00" + tenth + "02", callInts(2), api.ErrForm},
		{tenth + "01 00", callInts(math.MaxInt), api.ErrLong},
		{"ff ff ff ff ff ff ff ff 7f 00 00", callInts(math.MaxInt), api.ErrForm},
		{"", callWithin(0, 9), api.ErrForm},
		{"80 00", callWithin(5, 9), api.ErrForm},
		{"03", callWithin(-1, 9), api.ErrRange},
		{"03", callWithin(-9, -3), api.ErrRange},
		{"03", callWithin(9, -9), api.ErrRange},
		{"00", callWithin(1, math.MaxInt64), api.ErrRange},
		{tenth + "01", callWithin(math.MinInt64+1, math.MaxInt64), api.ErrRange},
		{"fe ff ff ff ff ff ff ff ff 01", callWithin(math.MinInt64, math.MaxInt64-1), api.ErrRange},
	} {
		what := c.call.name + " of " + c.bytes
		b := unhex(t, c.bytes)
		r := wire.NewReader(b)
		if got := c.call.ask(r); got != "" {
			t.Errorf("%s: answers %q", what, got)
		}
		checkState(t, what, r, 0, len(b), c.want)

		r = wire.NewReader(append([]byte{0x81, 1}, b...))
		if n := r.Uint(); n != 129 {
			t.Errorf("%s: the number ahead is %d", what, n)
		}
		c.call.ask(r)
		checkState(t, what+", behind a number", r, 2, len(b), c.want)
		checkStopped(t, what, r)
	}
}

// checkStopped: after an error every call answers nothing, and neither the position nor the error changes.
func checkStopped(t *testing.T, what string, r *wire.Reader) {
	t.Helper()
	at, left, err := r.At(), r.Left(), r.Err()
	for _, c := range allCalls() {
		if got := c.ask(r); got != "" {
			t.Errorf("%s: then %s answers %q", what, c.name, got)
		}
		checkState(t, what+", then "+c.name, r, at, left, err)
	}
	if got := r.End(); got != err {
		t.Errorf("%s: then End is %d, not %d", what, got, err)
	}
	checkState(t, what+", then End", r, at, left, err)
}

// P1.4: a nil reader.
func TestNilReader(t *testing.T) {
	var r *wire.Reader
	for _, c := range allCalls() {
		if got := c.ask(r); got != "" {
			t.Errorf("%s of a nil reader: %q", c.name, got)
		}
	}
	checkState(t, "a nil reader", r, 0, 0, api.ErrNil)
	if got := r.End(); got != api.ErrNil {
		t.Errorf("End of a nil reader: %d", got)
	}
}

// P1.2, P1.4: readers of nothing. A reader that nobody made is one, too.
func TestEmptyReader(t *testing.T) {
	for what, r := range map[string]*wire.Reader{"nil": wire.NewReader(nil), "no bytes": wire.NewReader([]byte{}), "zero": {}} {
		if r == nil {
			t.Fatal(what, "has no reader")
		}
		checkState(t, what, r, 0, 0, api.OK)
		if got := r.Rest(); len(got) != 0 {
			t.Errorf("%s: Rest % x", what, got)
		}
		if got := r.End(); got != api.OK {
			t.Errorf("%s: End %d", what, got)
		}
		if r.Uint() != 0 || r.Err() != api.ErrForm || r.End() != api.ErrForm {
			t.Errorf("%s: Uint, then Err %d, End %d", what, r.Err(), r.End())
		}
	}
}

// P1.4: all that is left.
func TestRest(t *testing.T) {
	r := wire.NewReader([]byte{5, 6, 7})
	checkState(t, "new", r, 0, 3, api.OK)
	r.Byte()
	if got := r.Rest(); !bytes.Equal(got, []byte{6, 7}) {
		t.Errorf("Rest % x", got)
	}
	checkState(t, "Rest", r, 3, 0, api.OK)
	if got := r.Rest(); len(got) != 0 {
		t.Errorf("Rest again % x", got)
	}
	checkState(t, "Rest again", r, 3, 0, api.OK)
	if got := r.End(); got != api.OK {
		t.Errorf("End after Rest: %d", got)
	}
	if got := wire.NewReader([]byte{5, 6}).Rest(); !bytes.Equal(got, []byte{5, 6}) {
		t.Errorf("Rest of all % x", got)
	}
}

// P1.4: End keeps the error that was met, and makes one of bytes that are left.
func TestEnd(t *testing.T) {
	r := wire.NewReader([]byte{5, 1, 1})
	r.Byte()
	if got := r.End(); got != api.ErrForm {
		t.Errorf("End with bytes left: %d", got)
	}
	checkState(t, "End with bytes left", r, 1, 2, api.ErrForm)
	checkStopped(t, "End with bytes left", r)

	r = wire.NewReader([]byte{5})
	r.Byte()
	for range 2 {
		if got := r.End(); got != api.OK {
			t.Errorf("End at the end: %d", got)
		}
		checkState(t, "End at the end", r, 1, 0, api.OK)
	}

	r = wire.NewReader([]byte{5, 6})
	r.Bytes(-1)
	if got := r.End(); got != api.ErrArg {
		t.Errorf("End after ErrArg: %d", got)
	}
	r = wire.NewReader([]byte{9})
	r.Within(0, 4)
	if got := r.End(); got != api.ErrRange {
		t.Errorf("End after ErrRange: %d", got)
	}
}

// P1.2 to P1.4: a string, a list and a number that are cut off anywhere.
func TestCutOff(t *testing.T) {
	for _, c := range []struct {
		bytes []byte
		call  call
	}{
		{wire.Uint(math.MaxUint64), callUint()},
		{wire.Int(math.MinInt64), callInt()},
		{wire.Int(-1 << 40), callWithin(math.MinInt64, math.MaxInt64)},
		{wire.Text(strings.Repeat("ab", 100)), callText(200)},
		{wire.Texts("", "b", strings.Repeat("c", 130)), callTexts(3, 130)},
		{wire.Ints(0, -1, 300, math.MaxInt64, math.MinInt64), callInts(5)},
		{[]byte{1, 2, 3}, callBytes(3)},
		{wire.Flag(true), callFlag()},
	} {
		r := wire.NewReader(c.bytes)
		c.call.ask(r)
		checkState(t, c.call.name, r, len(c.bytes), 0, api.OK)
		for n := range c.bytes {
			r := wire.NewReader(c.bytes[:n])
			if got := c.call.ask(r); got != "" {
				t.Errorf("%s of %d bytes: %q", c.call.name, n, got)
			}
			checkState(t, fmt.Sprintf("%s of %d bytes", c.call.name, n), r, 0, n, api.ErrForm)
		}
	}
}

// Rules 4 and 5: a reader keeps none of the caller's memory, and gives away none of its own.
func TestReaderMemory(t *testing.T) {
	b := []byte{1, 2, 3, 4, 5, 2, 1, 'a', 1, 'b', 2, 2, 4, 1, 'c', 9}
	r := wire.NewReader(b)
	before := bytes.Clone(b)
	first := r.Bytes(2)
	_ = append(first, 99, 99)
	first[0] = 77
	second := r.Bytes(3)
	if !bytes.Equal(second, []byte{3, 4, 5}) {
		t.Errorf("Bytes after a write into the one before: % x", second)
	}
	for i := range b {
		b[i] = 0xEE
	}
	texts, ints := r.Texts(2, 1), r.Ints(2)
	if !reflect.DeepEqual(texts, []string{"a", "b"}) || !reflect.DeepEqual(ints, []int64{1, 2}) {
		t.Errorf("Texts %q, Ints %d after a write into the argument", texts, ints)
	}
	text := r.Text(1)
	rest := r.Rest()
	if text != "c" || !bytes.Equal(rest, []byte{9}) || r.End() != api.OK {
		t.Errorf("Text %q, Rest % x, End %d", text, rest, r.End())
	}
	rest[0], second[0] = 88, 88
	if b[len(b)-1] != 0xEE || b[2] != 0xEE {
		t.Error("a result shares memory with the argument", b)
	}

	b = bytes.Clone(before)
	wire.NewReader(b).Rest()[0] = 88
	wire.NewReader(b).Bytes(4)[0] = 88
	if !bytes.Equal(b, before) {
		t.Error("the argument is changed", b)
	}
	one, two := wire.NewReader(b), wire.NewReader(b)
	one.Bytes(5)
	checkState(t, "another reader of the same bytes", two, 0, len(b), api.OK)
}
