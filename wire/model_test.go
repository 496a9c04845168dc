package wire_test

import (
	"bytes"
	"encoding/binary"
	"fmt"
	"math"
	"math/rand"
	"reflect"
	"testing"

	"towpath/api"
	"towpath/wire"
)

// model decodes as the chapter says it, on what is left of the bytes, by the library's numbers. Each of its functions answers the bytes behind the element.
type model struct{}

func (model) unsigned(b []byte) (uint64, []byte, api.Errno) {
	n, k := binary.Uvarint(b)
	if k <= 0 || len(binary.AppendUvarint(nil, n)) != k {
		return 0, b, api.ErrForm
	}
	return n, b[k:], api.OK
}

func (m model) signed(b []byte) (int64, []byte, api.Errno) {
	n, rest, err := m.unsigned(b)
	if n%2 == 1 {
		return -int64(n/2) - 1, rest, err
	}
	return int64(n / 2), rest, err
}

func (m model) within(b []byte, lo, hi int64) (int64, []byte, api.Errno) {
	n, rest, err := m.signed(b)
	if err == api.OK && !(lo <= n && n <= hi) {
		return 0, b, api.ErrRange
	}
	return n, rest, err
}

func (m model) text(b []byte, most int) (string, []byte, api.Errno) {
	n, rest, err := m.unsigned(b)
	switch {
	case err != api.OK:
		return "", b, err
	case n > math.MaxInt || most < 0 && n > 0 || most >= 0 && int(n) > most:
		return "", b, api.ErrLong
	case int(n) > len(rest):
		return "", b, api.ErrForm
	}
	return string(rest[:n]), rest[n:], api.OK
}

func (m model) list(b []byte, count int, element func([]byte) ([]byte, api.Errno)) ([]byte, api.Errno) {
	n, rest, err := m.unsigned(b)
	switch {
	case err != api.OK:
		return b, err
	case n > math.MaxInt || count < 0 && n > 0 || count >= 0 && int(n) > count:
		return b, api.ErrLong
	}
	for ; n > 0; n-- {
		if rest, err = element(rest); err != api.OK {
			return b, err
		}
	}
	return rest, api.OK
}

// ask does one random call on the bytes by the model and on the reader, and answers both results.
func (m model) ask(rnd *rand.Rand, b []byte, r *wire.Reader, stopped bool) (name string, want, got any, rest []byte, err api.Errno) {
	limits := []int{math.MinInt, -1, 0, 1, 2, 3, 9, math.MaxInt}
	p, q := limits[rnd.Intn(len(limits))], limits[rnd.Intn(len(limits))]
	rest, err = b, api.OK
	kind := rnd.Intn(9)
	name = fmt.Sprintf("call %d (%d, %d)", kind, p, q)
	switch kind {
	case 0:
		got = r.Uint()
		want, rest, err = m.unsigned(b)
	case 1:
		got = r.Int()
		want, rest, err = m.signed(b)
	case 2:
		got = r.Within(int64(p), int64(q))
		want, rest, err = m.within(b, int64(p), int64(q))
	case 3:
		got = r.Text(p)
		want, rest, err = m.text(b, p)
	case 4:
		got = r.Flag()
		if want = false; len(b) == 0 || b[0] > 1 {
			err = api.ErrForm
		} else {
			want, rest = b[0] == 1, b[1:]
		}
	case 5:
		got = r.Byte()
		if want = 0; len(b) == 0 {
			err = api.ErrForm
		} else {
			want, rest = int(b[0]), b[1:]
		}
	case 6:
		got = r.Bytes(p)
		if p < 0 {
			err = api.ErrArg
		} else if p > len(b) {
			err = api.ErrForm
		} else {
			want, rest = b[:p], b[p:]
		}
	case 7:
		got = r.Texts(p, q)
		var l []string
		rest, err = m.list(b, p, func(b []byte) ([]byte, api.Errno) {
			s, rest, err := m.text(b, q)
			l = append(l, s)
			return rest, err
		})
		want = l
	case 8:
		got = r.Ints(p)
		var l []int64
		rest, err = m.list(b, p, func(b []byte) ([]byte, api.Errno) {
			n, rest, err := m.signed(b)
			l = append(l, n)
			return rest, err
		})
		want = l
	}
	if stopped || err != api.OK {
		want = reflect.Zero(reflect.TypeOf(got)).Interface()
	}
	return name, want, got, rest, err
}

// P1.2 to P1.4, P1.7: any calls on any bytes answer as the model does.
func TestReaderByModel(t *testing.T) {
	rnd := rand.New(rand.NewSource(1))
	alphabet := []byte{0, 0, 1, 1, 1, 2, 2, 3, 4, 5, 0x61, 0x7f, 0x80, 0x80, 0x81, 0xfe, 0xff, 0xff}
	for range 60000 {
		b := make([]byte, rnd.Intn(25))
		for i := range b {
			b[i] = alphabet[rnd.Intn(len(alphabet))]
		}
		checkByModel(t, rnd, b)
		if t.Failed() {
			return
		}
	}
}

func checkByModel(t *testing.T, rnd *rand.Rand, b []byte) {
	r := wire.NewReader(b)
	rest, first := b, api.OK
	for range 6 {
		at := len(b) - len(rest)
		name, want, got, next, err := model{}.ask(rnd, rest, r, first != api.OK)
		if first == api.OK {
			rest, first = next, err
		}
		if !(tell(want) == tell(got) && len(rest) == r.Left() && len(b)-len(rest) == r.At() && r.Err() == first) {
			t.Errorf("%s at %d of % x: %v, At %d, Left %d, Err %d, not %v, %d left, %d", name, at, b, got, r.At(), r.Left(), r.Err(), want, len(rest), first)
			return
		}
	}
	if first == api.OK && len(rest) > 0 {
		first = api.ErrForm
	}
	if got := r.End(); got != first || r.Err() != first {
		t.Errorf("End after % x: %d, Err %d, not %d", b, got, r.Err(), first)
	}
}

// P1.6 and rule 8: whatever decodes is what it encodes to. All bytes of one and two, many of three.
func TestOnlyUniqueEncodings(t *testing.T) {
	for i := range 1 << 16 {
		for _, b := range [][]byte{{byte(i)}, {byte(i), byte(i >> 8)}, {byte(i), byte(i >> 8), byte(i >> 5)}, {byte(i) | 128, byte(i>>8) | 128, byte(i >> 4)}} {
			r := wire.NewReader(b)
			if n := r.Uint(); r.Err() == api.OK && !bytes.Equal(wire.Uint(n), b[:r.At()]) {
				t.Fatalf("% x decodes to %d, which is % x", b, n, wire.Uint(n))
			}
			r = wire.NewReader(b)
			if n := r.Int(); r.Err() == api.OK && !bytes.Equal(wire.Int(n), b[:r.At()]) {
				t.Fatalf("% x decodes to %d, which is % x", b, n, wire.Int(n))
			}
		}
	}
}

// element is something that is encoded, and a check that decodes it.
type element struct {
	bytes []byte
	same  func(r *wire.Reader) bool
}

func randomText(rnd *rand.Rand) string {
	b := make([]byte, rnd.Intn(200))
	rnd.Read(b)
	return string(b)
}

func randomInt(rnd *rand.Rand) int64 { return int64(rnd.Uint64()) >> rnd.Intn(64) }

func randomElement(rnd *rand.Rand) element {
	u, n, s := rnd.Uint64()>>rnd.Intn(64), randomInt(rnd), randomText(rnd)
	var texts []string
	var ints []int64
	for range rnd.Intn(5) {
		texts, ints = append(texts, randomText(rnd)), append(ints, randomInt(rnd))
	}
	switch rnd.Intn(8) {
	case 0:
		return element{wire.Uint(u), func(r *wire.Reader) bool { return r.Uint() == u }}
	case 1:
		return element{wire.Int(n), func(r *wire.Reader) bool { return r.Int() == n }}
	case 2:
		return element{wire.Int(n), func(r *wire.Reader) bool { return r.Within(n, n) == n }}
	case 3:
		return element{wire.Text(s), func(r *wire.Reader) bool { return r.Text(len(s)) == s }}
	case 4:
		return element{wire.Flag(n < 0), func(r *wire.Reader) bool { return r.Flag() == (n < 0) }}
	case 5:
		return element{wire.Texts(texts...), func(r *wire.Reader) bool {
			return fmt.Sprintf("%q", r.Texts(len(texts), 200)) == fmt.Sprintf("%q", texts)
		}}
	case 6:
		return element{wire.Ints(ints...), func(r *wire.Reader) bool {
			return fmt.Sprint(r.Ints(len(ints))) == fmt.Sprint(ints)
		}}
	}
	return element{[]byte(s), func(r *wire.Reader) bool { return string(r.Bytes(len(s))) == s }}
}

// P1.5: decoding by the corresponding calls returns what was encoded, and no bytes are left.
func TestRoundTrip(t *testing.T) {
	rnd := rand.New(rand.NewSource(2))
	for range 3000 {
		var parts [][]byte
		var l []element
		for range rnd.Intn(12) {
			e := randomElement(rnd)
			parts, l = append(parts, e.bytes), append(l, e)
		}
		b := wire.Join(parts...)
		if !bytes.Equal(b, bytes.Join(parts, nil)) {
			t.Fatalf("Join of % x: % x", parts, b)
		}
		r := wire.NewReader(b)
		at := 0
		for _, e := range l {
			at += len(e.bytes)
			if !e.same(r) || r.At() != at || r.Left() != len(b)-at {
				t.Fatalf("% x decodes to something else; At %d, Left %d of % x", e.bytes, r.At(), r.Left(), b)
			}
		}
		if r.Left() != 0 || r.End() != api.OK {
			t.Fatalf("left %d, End %d of % x", r.Left(), r.End(), b)
		}
	}
	for _, n := range someNumbers() {
		if got := wire.NewReader(wire.Uint(n)).Uint(); got != n {
			t.Errorf("%d decodes to %d", n, got)
		}
		if got := wire.NewReader(wire.Int(int64(n))).Int(); got != int64(n) {
			t.Errorf("%d decodes to %d", int64(n), got)
		}
	}
}
