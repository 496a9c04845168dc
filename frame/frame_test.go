package frame_test

import (
	"bytes"
	"encoding/binary"
	"hash/crc32"
	"math/rand"
	"testing"

	"towpath/api"
	"towpath/frame"
)

// The calls keep the signatures that the chapter lists.
var (
	_ func(...[]byte) uint32                = frame.Sum
	_ func(uint32, ...[]byte) uint32        = frame.More
	_ func(...[]byte) []byte                = frame.Seal
	_ func([]byte) ([]byte, bool)           = frame.Open
	_ func([]byte) ([]byte, int, bool)      = frame.First
	_ func([]byte) (bodies [][]byte, n int) = frame.Scan
)

func random(rnd *rand.Rand, n int) []byte {
	b := make([]byte, n)
	rnd.Read(b)
	return b
}

// definedSum is the chapter's definition, bit by bit.
func definedSum(b []byte) uint32 {
	sum := ^uint32(0)
	for _, x := range b {
		for i := range 8 {
			differ := sum&1 != uint32(x>>i&1)
			sum >>= 1
			if differ {
				sum ^= 0xEDB88320
			}
		}
	}
	return ^sum
}

// definedFrame lays a frame out without asking whether its body may be so long.
func definedFrame(body []byte) []byte {
	b := binary.LittleEndian.AppendUint32(nil, uint32(len(body)))
	b = append(b, body...)
	return binary.LittleEndian.AppendUint32(b, crc32.ChecksumIEEE(b))
}

// checkShut: b neither is a frame nor begins with one.
func checkShut(t *testing.T, what string, b []byte) {
	t.Helper()
	checkNotOne(t, what, b)
	if body, n, ok := frame.First(b); len(body) != 0 || n != 0 || ok {
		t.Errorf("%s: First %x, %d, %v", what, body, n, ok)
	}
	if l, n := frame.Scan(b); len(l) != 0 || n != 0 {
		t.Errorf("%s: Scan %x, %d", what, l, n)
	}
}

func checkNotOne(t *testing.T, what string, b []byte) {
	t.Helper()
	if body, ok := frame.Open(b); len(body) != 0 || ok {
		t.Errorf("%s: Open %x, %v", what, body, ok)
	}
}

// checkOpens: b is one frame with that body, and begins with it.
func checkOpens(t *testing.T, what string, b, want []byte) {
	t.Helper()
	if body, ok := frame.Open(b); !bytes.Equal(body, want) || !ok {
		t.Errorf("%s: Open %x, %v", what, body, ok)
	}
	if body, n, ok := frame.First(b); !bytes.Equal(body, want) || n != len(b) || !ok {
		t.Errorf("%s: First %x, %d, %v", what, body, n, ok)
	}
	if l, n := frame.Scan(b); len(l) != 1 || !bytes.Equal(l[0], want) || n != len(b) {
		t.Errorf("%s: Scan %x, %d", what, l, n)
	}
}

// P2.1: the examples, and any bytes by the definition.
func TestSum(t *testing.T) {
	for _, c := range []struct {
		text string
		want uint32
	}{{"", 0}, {"123456789", 0xCBF43926}, {"\x00", 0xD202EF8D}, {"\xff", 0xFF000000}, {"a", 0xE8B7BE43}} {
		if got := frame.Sum([]byte(c.text)); got != c.want {
			t.Errorf("Sum of %q: %x, not %x", c.text, got, c.want)
		}
	}
	if got := frame.Sum(); got != 0 {
		t.Errorf("Sum of no parts: %x", got)
	}
	if got := frame.Sum(nil, []byte("1234"), nil, []byte{}, []byte("56789"), nil); got != 0xCBF43926 {
		t.Errorf("Sum of parts: %x", got)
	}
	rnd := rand.New(rand.NewSource(1))
	for n := range 300 {
		b := random(rnd, n)
		if got, want := frame.Sum(b), definedSum(b); got != want || want != crc32.ChecksumIEEE(b) {
			t.Fatalf("Sum of % x: %x, not %x", b, got, want)
		}
	}
}

// P2.1: a checksum that is gone on with.
func TestMore(t *testing.T) {
	if got := frame.More(frame.Sum([]byte("12")), []byte("3456789")); got != 0xCBF43926 {
		t.Errorf("More: %x", got)
	}
	if got := frame.More(0, []byte("123"), nil, []byte("456789")); got != 0xCBF43926 {
		t.Errorf("More of no bytes: %x", got)
	}
	for _, sum := range []uint32{0, 1, 0xCBF43926, 0xFFFFFFFF} {
		if got := frame.More(sum); got != sum {
			t.Errorf("More(%x): %x", sum, got)
		}
		if got := frame.More(sum, nil, []byte{}); got != sum {
			t.Errorf("More(%x) of empty parts: %x", sum, got)
		}
	}
}

// P2.7: parts that are divided anywhere.
func TestSumOfParts(t *testing.T) {
	b := random(rand.New(rand.NewSource(2)), 40)
	want := definedSum(b)
	for i := 0; i <= len(b); i++ {
		for j := i; j <= len(b); j++ {
			if got := frame.Sum(b[:i], b[i:j], b[j:]); got != want {
				t.Fatalf("Sum divided at %d, %d: %x, not %x", i, j, got, want)
			}
			if got := frame.More(frame.Sum(b[:i]), b[i:j], b[j:]); got != want {
				t.Fatalf("More, divided at %d, %d: %x, not %x", i, j, got, want)
			}
			if got := frame.More(frame.More(frame.Sum(b[:i]), b[i:j]), b[j:]); got != want {
				t.Fatalf("More twice, divided at %d, %d: %x, not %x", i, j, got, want)
			}
		}
	}
}

// P2.2: the layout.
func TestSeal(t *testing.T) {
	want := "\x01\x00\x00\x00a\x63\x8f\xf7\xc1"
	for _, b := range [][]byte{frame.Seal([]byte("a")), frame.Seal(nil, []byte("a"), []byte{})} {
		if string(b) != want {
			t.Errorf("Seal of a: % x", b)
		}
	}
	for _, b := range [][]byte{frame.Seal(), frame.Seal(nil), frame.Seal(nil, []byte{})} {
		if !bytes.Equal(b, definedFrame(nil)) || len(b) != 8 {
			t.Errorf("Seal of nothing: % x", b)
		}
	}
	rnd := rand.New(rand.NewSource(3))
	for n := range 600 {
		body := random(rnd, n)
		i := rnd.Intn(n + 1)
		if got := frame.Seal(body[:i], body[i:]); !bytes.Equal(got, definedFrame(body)) {
			t.Fatalf("Seal of % x: % x", body, got)
		}
	}
}

// P2.2, P2.4: bodies of MaxBody bytes and one more.
func TestLongestBody(t *testing.T) {
	if api.MaxBody != 262144 {
		t.Fatal("MaxBody", api.MaxBody)
	}
	body := random(rand.New(rand.NewSource(4)), api.MaxBody+1)
	most := body[:api.MaxBody]
	for _, b := range [][]byte{frame.Seal(most), frame.Seal(most[:1], most[1:]), frame.Seal(most, nil)} {
		if !bytes.Equal(b, definedFrame(most)) {
			t.Fatalf("Seal of MaxBody bytes has %d", len(b))
		}
		checkOpens(t, "MaxBody bytes", b, most)
	}
	for _, b := range [][]byte{frame.Seal(body), frame.Seal(most, body[:1]), frame.Seal(body[:1], most), frame.Seal(most, most, most), frame.Seal(append([]byte{1}, body...))} {
		if len(b) != 0 {
			t.Errorf("a body that is too long is sealed in %d bytes", len(b))
		}
	}
	checkShut(t, "MaxBody + 1 bytes, with a checksum that is right", definedFrame(body))
	two := append(frame.Seal([]byte("a")), definedFrame(body)...)
	if l, n := frame.Scan(two); len(l) != 1 || n != 9 {
		t.Errorf("Scan ahead of too long a body: %d bodies, %d", len(l), n)
	}
}

// P2.4: Open inverts Seal, and whatever opens is the result of Seal.
func TestOpenInvertsSeal(t *testing.T) {
	rnd := rand.New(rand.NewSource(5))
	for n := range 400 {
		body := random(rnd, n)
		b := frame.Seal(body)
		checkOpens(t, "a frame", b, body)
		checkNotOne(t, "a frame and a byte", append(bytes.Clone(b), 0))
		checkNotOne(t, "a frame twice", append(bytes.Clone(b), b...))
		if got, size, ok := frame.First(append(bytes.Clone(b), b[:n]...)); !ok || size != len(b) || !bytes.Equal(got, body) {
			t.Fatalf("First with more behind: % x, %d, %v", got, size, ok)
		}
	}
	opened := 0
	for range 100000 {
		b := frame.Seal(random(rnd, rnd.Intn(4)))
		for range rnd.Intn(3) {
			b[rnd.Intn(len(b))] ^= byte(rnd.Intn(3))
		}
		if rnd.Intn(4) == 0 {
			b = append(b, random(rnd, rnd.Intn(3))...)
		}
		if body, ok := frame.Open(b); ok {
			opened++
			if !bytes.Equal(frame.Seal(body), b) {
				t.Fatalf("% x opens, and is no result of Seal", b)
			}
		}
	}
	if opened < 1000 {
		t.Errorf("only %d opened: too few to tell", opened)
	}
}

// P2.2, P2.3: bytes that are no frame.
func TestNoFrame(t *testing.T) {
	checkShut(t, "nil", nil)
	for n := range 30 {
		checkShut(t, "zeros", make([]byte, n))
		checkShut(t, "ones", bytes.Repeat([]byte{255}, n))
	}
	for _, long := range []uint32{2, 3, 9, 10, 262144, 262145, 1<<31 - 1, 1 << 31, 1<<32 - 8, 1<<32 - 1} {
		b := binary.LittleEndian.AppendUint32(nil, long)
		checkShut(t, "a length alone", b)
		b = append(b, 'a')
		b = binary.LittleEndian.AppendUint32(b, crc32.ChecksumIEEE(b))
		checkShut(t, "a length beyond the bytes", b)
	}
	b := frame.Seal([]byte("ab"))
	for _, i := range []int{2, 4, 6, 7, 8, 9} {
		worse := bytes.Clone(b)
		worse[i] ^= 1
		checkShut(t, "a bit", worse)
	}
	noLength := binary.LittleEndian.AppendUint32([]byte{1, 0, 0, 0, 'a'}, crc32.ChecksumIEEE([]byte("a")))
	checkShut(t, "a checksum of the body alone", noLength)
	bigEndian := binary.BigEndian.AppendUint32([]byte{1, 0, 0, 0, 'a'}, 0xC1F78F63)
	checkShut(t, "a checksum with the highest byte first", bigEndian)
}

// P2.3, P2.5: of frames that are cut off anywhere, exactly the complete ones.
func TestScanCutOff(t *testing.T) {
	rnd := rand.New(rand.NewSource(6))
	var all []byte
	var bodies [][]byte
	ends := []int{0}
	for _, n := range []int{3, 0, 17, 1, 0, 64, 8} {
		body := random(rnd, n)
		bodies = append(bodies, body)
		all = append(all, frame.Seal(body)...)
		ends = append(ends, len(all))
	}
	for n := 0; n <= len(all); n++ {
		whole := 0
		for whole+1 < len(ends) && ends[whole+1] <= n {
			whole++
		}
		l, size := frame.Scan(all[:n])
		if len(l) != whole || size != ends[whole] {
			t.Fatalf("Scan of %d bytes: %d bodies, %d bytes, not %d, %d", n, len(l), size, whole, ends[whole])
		}
		for i := range l {
			if !bytes.Equal(l[i], bodies[i]) {
				t.Fatalf("Scan of %d bytes: body %d is % x, not % x", n, i, l[i], bodies[i])
			}
		}
		_, isEnd, ok := frame.First(all[:n])
		if ok != (n >= ends[1]) || ok && isEnd != ends[1] {
			t.Fatalf("First of %d bytes: %d, %v", n, isEnd, ok)
		}
		if _, ok := frame.Open(all[:n]); ok != (n == ends[1]) {
			t.Fatalf("Open of %d bytes: %v", n, ok)
		}
	}
}

// P2.3: the example; and Scan stops at what is no frame, whatever follows.
func TestScanStops(t *testing.T) {
	a, b, c := frame.Seal([]byte("a")), frame.Seal([]byte("bc")), frame.Seal([]byte("def"))
	l, n := frame.Scan(bytes.Join([][]byte{a, b, {1, 0, 0}}, nil))
	if len(l) != 2 || string(l[0]) != "a" || string(l[1]) != "bc" || n != len(a)+len(b) {
		t.Errorf("Scan of two frames and three bytes: %q, %d", l, n)
	}
	worse := bytes.Clone(b)
	worse[5] ^= 16
	l, n = frame.Scan(bytes.Join([][]byte{a, worse, c}, nil))
	if len(l) != 1 || string(l[0]) != "a" || n != len(a) {
		t.Errorf("Scan up to a spoilt frame: %q, %d", l, n)
	}
	l, n = frame.Scan(bytes.Join([][]byte{{0}, a, b}, nil))
	if len(l) != 0 || n != 0 {
		t.Errorf("Scan behind a byte: %q, %d", l, n)
	}
}

// flip inverts the bits of a pattern, from a bit on (in each byte from its lowest bit on); what goes beyond the end is left out.
func flip(b []byte, from int, pattern uint32) []byte {
	c := bytes.Clone(b)
	for i := range 32 {
		if at := from + i; pattern>>i&1 == 1 && at < 8*len(c) {
			c[at/8] ^= 1 << (at % 8)
		}
	}
	return c
}

// P2.6: a frame with bits flipped within 32 consecutive ones does not open. Every place and width, and some patterns of each.
func TestBursts(t *testing.T) {
	rnd := rand.New(rand.NewSource(7))
	for _, n := range []int{0, 1, 2, 5, 33} {
		b := frame.Seal(random(rnd, n))
		for from := range 8 * len(b) {
			for width := 1; width <= 32; width++ {
				ends := uint32(1) | uint32(1)<<(width-1)
				within := ^uint32(0) >> (32 - width)
				for _, pattern := range []uint32{ends, within, ends | rnd.Uint32()&within, ends | rnd.Uint32()&within} {
					if body, ok := frame.Open(flip(b, from, pattern)); ok || len(body) != 0 {
						t.Fatalf("% x with %08x flipped at bit %d opens", b, pattern, from)
					}
				}
			}
		}
	}
	b := frame.Seal(random(rnd, api.MaxBody))
	for range 40 {
		from, pattern := rnd.Intn(8*len(b)-32), rnd.Uint32()|1
		if _, ok := frame.Open(flip(b, from, pattern)); ok {
			t.Fatalf("the longest frame with %08x flipped at bit %d opens", pattern, from)
		}
	}
}

// P2.7, and rules 4 and 5: results share memory with no argument, and with no other result; arguments stay as they are.
func TestMemory(t *testing.T) {
	part := append(make([]byte, 0, 64), "abc"...)
	sealed := frame.Seal(part)
	sealed[4] = 'X'
	_ = append(sealed, 'Y')
	if string(part) != "abc" || !bytes.Equal(part[3:16], make([]byte, 13)) {
		t.Errorf("Seal writes into a part: %q", part[:16])
	}
	sealed = frame.Seal(part)
	part[0] = 'Z'
	checkOpens(t, "a part is written to later", sealed, []byte("abc"))

	all := append(frame.Seal([]byte("abc")), frame.Seal([]byte("de"))...)
	all = append(all, frame.Seal()...)
	before := bytes.Clone(all)
	l, _ := frame.Scan(all)
	body, _, _ := frame.First(all)
	opened, _ := frame.Open(all[:11])
	results := append([][]byte{body, opened}, l...)
	want := []string{"abc", "abc", "abc", "de", ""}
	for i := range results {
		if string(results[i]) != want[i] {
			t.Fatalf("result %d is %q, not %q", i, results[i], want[i])
		}
	}
	for i := range results {
		_ = append(results[i], "0123456789"...)
		for j := range results[i] {
			results[i][j] = '#'
		}
		for k := i + 1; k < len(results); k++ {
			if string(results[k]) != want[k] {
				t.Errorf("writing into result %d changes result %d", i, k)
			}
		}
	}
	if !bytes.Equal(all, before) {
		t.Errorf("the argument is changed: % x", all)
	}
	l, _ = frame.Scan(all)
	for i := range all {
		all[i] = 0xEE
	}
	if string(l[0]) != "abc" || string(l[1]) != "de" {
		t.Errorf("bodies after a write into the argument: %q", l)
	}
}
