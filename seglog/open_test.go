package seglog_test

import (
	"encoding/binary"
	"fmt"
	"math"
	"math/rand"
	"slices"
	"strings"
	"testing"

	"towpath/api"
	"towpath/disk"
	"towpath/rec"
)

// forged writes a file.
func forged(d *disk.Disk, name string, parts ...[]byte) {
	if err := d.Append(name, parts...); err != api.OK {
		panic(fmt.Sprint(name, err))
	}
}

// file is one that is forged, by its base.
type file struct {
	base  int64
	bytes []byte
}

func join(parts ...[]byte) []byte { return slices.Concat(parts...) }

// left is what a log has and what its files are: the base and the size of each, with the batches it keeps.
func left(t *testing.T, files []file) string {
	t.Helper()
	d := newDisk(t)
	for _, f := range files {
		forged(d, fileName("p", f.base), f.bytes)
	}
	l := opened(t, d, small)
	stays(t, d, shown(l))
	var s strings.Builder
	for _, name := range d.Names("") {
		fmt.Fprintf(&s, "%s:%d ", strings.TrimLeft(name[2:13], "0"), d.Size(name))
	}
	s.WriteString("|")
	for _, b := range l.All() {
		fmt.Fprintf(&s, " %d", b.Base)
	}
	fmt.Fprintf(&s, " | %d", l.Next())
	if names := d.Names(""); len(names) != len(l.Segments()) {
		t.Errorf("files %v, segments %v", names, l.Segments())
	}
	return s.String()
}

// P6.1: each kind of file that Open names, alone and with others behind it.
func TestOpenForged(t *testing.T) {
	h, one := head, body(at(0, 1))
	good := file{0, join(h(0, 0), one)} // 32 bytes, 11 of them its header; a second record would add 6
	next := file{1, join(h(1, 0), body(at(1, 1)))}
	third := file{5, join(h(5, 0), body(at(5, 1)))}
	number := func(n uint64) []byte { return binary.AppendUvarint(nil, n) }
	spoilt := slices.Clone(good.bytes)
	spoilt[20] ^= 4
	for _, c := range []struct {
		what  string
		files []file
		want  string
	}{
		{"nothing", nil, "| | 0"},
		{"a segment", []file{good}, ":32 | 0 | 1"},
		{"three", []file{good, next, third}, ":32 1:32 5:32 | 0 1 5 | 6"},
		{"a first one that is not 0", []file{next, third}, "1:32 5:32 | 1 5 | 6"},
		{"no batches", []file{{0, h(0, 0)}}, ":11 | | 0"},
		{"no batches, then some", []file{{0, h(0, 0)}, third}, ":11 5:32 | 5 | 6"},
		{"some, then no batches", []file{good, {9, h(9, 0)}}, ":32 9:11 | 0 | 9"},

		{"no bytes", []file{{0, nil}}, "| | 0"},
		{"no bytes, with others", []file{good, {1, nil}, third}, ":32 | 0 | 1"},
		{"a header that is cut off", []file{good, {1, h(1, 0)[:10]}, third}, ":32 | 0 | 1"},
		{"a header with another base", []file{good, {1, h(2, 0)}, third}, ":32 | 0 | 1"},
		{"a header with the base of another", []file{good, {1, h(0, 0)}, third}, ":32 | 0 | 1"},
		{"a batch for a header", []file{good, {1, body(at(1, 1))}, third}, ":32 | 0 | 1"},
		{"a spoilt header", []file{{0, append([]byte{2}, good.bytes[1:]...)}, third}, "| | 0"},
		{"another first byte", []file{good, {1, framed([]byte{82, 1, 0})}, third}, ":32 | 0 | 1"},
		{"no end marker", []file{good, {1, framed([]byte{83, 1})}, third}, ":32 | 0 | 1"},
		{"a header that goes on", []file{good, {1, framed([]byte{83, 1, 0, 0})}, third}, ":32 | 0 | 1"},
		{"an empty frame", []file{good, {1, framed(nil)}, third}, ":32 | 0 | 1"},
		{"a base in a longer form", []file{good, {1, framed([]byte{83, 0x81, 0, 0})}, third}, ":32 | 0 | 1"},
		{"an end marker in a longer form", []file{good, {1, framed([]byte{83, 1, 0x80, 0})}, third}, ":32 | 0 | 1"},
		{"an end marker at the base", []file{good, {2, h(2, 2)}, third}, ":32 | 0 | 1"},
		{"an end marker below the base", []file{good, {2, h(2, 1)}, third}, ":32 | 0 | 1"},
		{"an end marker above the base", []file{good, {2, h(2, 3)}, third}, ":32 2:11 5:32 | 0 5 | 6"},
		{"the greatest end marker", []file{good, {2, h(2, api.MaxOffset)}, third}, ":32 2:16 | 0 | " + fmt.Sprint(api.MaxOffset)},
		{"one beyond it", []file{good, {2, h(2, api.MaxOffset+1)}, third}, ":32 | 0 | 1"},
		{"one far beyond it", []file{good, {2, framed(join([]byte{83, 2}, number(math.MaxUint64)))}, third}, ":32 | 0 | 1"},
		{"the greatest base", []file{good, {api.MaxOffset, h(api.MaxOffset, 0)}}, ":32 10000000000:16 | 0 | " + fmt.Sprint(api.MaxOffset)},
		{"the greatest base and a batch", []file{{api.MaxOffset, join(h(api.MaxOffset, 0), body(at(api.MaxOffset, 1)))}}, "10000000000:42 | " + fmt.Sprint(api.MaxOffset, " | ", api.MaxOffset+1)},
		{"a base beyond it", []file{good, {api.MaxOffset + 1, h(api.MaxOffset+1, 0)}}, ":32 | 0 | 1"},
		{"the greatest name", []file{good, {1<<44 - 1, h(1<<44-1, 0)}}, ":32 | 0 | 1"},

		{"a base below the reach", []file{{0, join(h(0, 0), body(at(0, 3)))}, {2, join(h(2, 0), body(at(2, 1)))}, {3, h(3, 0)}}, ":44 3:11 | 0 | 3"},
		{"rubbish below the reach", []file{{0, join(h(0, 0), body(at(0, 3)))}, {2, []byte("rubbish")}, {3, h(3, 0)}}, ":44 3:11 | 0 | 3"},
		{"bases below an end marker", []file{{0, join(h(0, 5), one)}, next, {4, h(4, 0)}, third}, ":32 5:32 | 0 5 | 6"},
		{"an end marker below the last batch", []file{{0, join(h(0, 1), body(at(0, 4)))}, {3, h(3, 0)}, third}, ":50 5:32 | 0 5 | 6"},
		{"batches from the end marker on", []file{{0, join(h(0, 3), one, body(at(3, 1)), body(at(7, 1)))}}, ":74 | 0 3 7 | 8"},
		{"a batch across the end marker", []file{{0, join(h(0, 3), body(at(2, 4)))}}, ":50 | 2 | 6"},

		{"a batch that is cut off", []file{good, {1, next.bytes[:31]}, third}, ":32 1:11 | 0 | 1"},
		{"a byte behind a batch", []file{good, {1, join(next.bytes, []byte{0})}, third}, ":32 1:32 | 0 1 | 2"},
		{"a byte behind a header", []file{{0, join(h(0, 0), []byte{7})}, third}, ":11 | | 0"},
		{"a spoilt batch", []file{{0, join(spoilt, body(at(1, 1)))}, third}, ":11 | | 0"},
		{"a batch behind a spoilt one", []file{{0, join(good.bytes, spoilt[11:], body(at(2, 1)))}, next}, ":32 | 0 | 1"},
		{"a frame that is no batch", []file{{0, join(good.bytes, framed([]byte("batch")), body(at(1, 1)))}, third}, ":32 | 0 | 1"},
		{"an empty frame behind a batch", []file{{0, join(good.bytes, framed(nil))}, third}, ":32 | 0 | 1"},
		{"a second header", []file{{0, join(good.bytes, h(0, 0))}, third}, ":32 | 0 | 1"},
		{"the first batch below the base", []file{good, {2, join(h(2, 0), body(at(1, 1)), body(at(2, 1)))}, third}, ":32 2:11 | 0 | 2"},
		{"the first batch above the base", []file{good, {2, join(h(2, 0), body(at(4, 1)))}, third}, ":32 2:32 5:32 | 0 4 5 | 6"},
		{"an offset twice", []file{{0, join(good.bytes, one)}, third}, ":32 | 0 | 1"},
		{"an overlap", []file{{0, join(h(0, 0), body(at(0, 2)), body(at(1, 2)))}, third}, ":38 | 0 | 2"},
		{"a hole", []file{{0, join(good.bytes, body(at(3, 1)))}, third}, ":53 5:32 | 0 3 5 | 6"},
		{"falling", []file{{0, join(h(0, 0), body(at(4, 1)), body(at(3, 1)))}, third}, ":32 | 4 | 5"},
	} {
		if got := left(t, c.files); got != c.want {
			t.Errorf("%s: %s, not %s", c.what, got, c.want)
		}
	}
}

// P6.1: files that were not finished go, whatever is in them; those of other logs stay.
func TestOpenNew(t *testing.T) {
	d := newDisk(t)
	forged(d, "p-00000000000.log", head(0, 0), body(at(0, 1)))
	before := content(d, "")
	for _, name := range []string{"p-00000000000.new", "p-00000000001.new", "p-fffffffffff.new", "p-00000abcdef.new"} {
		forged(d, name, head(0, 9), body(at(0, 1)))
	}
	forged(d, "pp-00000000000.new", []byte("1"))
	forged(d, "o-00000000000.new", []byte("1"))
	l := opened(t, d, small)
	if got := content(d, "p-"); got != before || d.Size("pp-00000000000.new") != 1 || d.Size("o-00000000000.new") != 1 {
		t.Errorf("%s, not %s", got, before)
	}
	if l.Next() != 1 || len(l.All()) != 1 {
		t.Error(shown(l))
	}
}

// modelOpen says once more what Open finds in files, by decoding all frames first.
func modelOpen(files []file) *model {
	m := &model{Config: small}
	slices.SortFunc(files, func(a, b file) int { return int(a.base - b.base) })
	var reach int64
	for _, f := range files {
		if f.base < reach {
			continue
		}
		bodies, whole := allFrames(f.bytes)
		s := mseg{base: f.base}
		if len(bodies) == 0 || !isHead(bodies[0], &s) {
			break
		}
		size := 8 + len(bodies[0])
		free := s.base
		for _, raw := range bodies[1:] {
			b, err := rec.Decode(raw)
			if err != api.OK || b.Base < free {
				whole = false
				break
			}
			s.l = append(s.l, b)
			free = rec.Next(b)
			size += 8 + len(raw)
		}
		m.segs = append(m.segs, s)
		reach = s.next()
		if !whole {
			break
		}
	}
	return m
}

// allFrames returns the bodies of the frames that begin b, and whether they are all of it.
func allFrames(b []byte) ([][]byte, bool) {
	var l [][]byte
	for len(b) >= 8 {
		n := int(binary.LittleEndian.Uint32(b))
		if n > len(b)-8 || string(framed(b[4:4+n])) != string(b[:8+n]) {
			return l, false
		}
		l = append(l, b[4:4+n])
		b = b[8+n:]
	}
	return l, len(b) == 0
}

func isHead(raw []byte, s *mseg) bool {
	for _, end := range []int64{0, s.base + 1, s.base + 2, s.base + 5, s.base + 9} { // those that someFile forges
		if string(framed(raw)) == string(head(uint64(s.base), uint64(end))) {
			s.end = end
			return true
		}
	}
	return false
}

// someFile is a segment with faults of any kind, now and then.
func someFile(rnd *rand.Rand, base int64) file {
	end := int64(0)
	if rnd.Intn(4) == 0 {
		end = base + pick[int64](rnd, 1, 2, 5, 9)
	}
	b := head(uint64(base), uint64(end))
	switch rnd.Intn(25) {
	case 0:
		b = head(uint64(base+1), 0)
	case 1:
		b = framed([]byte{83, byte(base)})
	}
	next := base
	for range rnd.Intn(4) {
		batch := someBatch(rnd)
		batch.Base = max(next+pick[int64](rnd, 0, 0, 0, 0, 0, 0, 1, 3, -1), 0)
		b = append(b, body(batch)...)
		next = rec.Next(batch)
	}
	switch rnd.Intn(12) {
	case 0:
		b = b[:rnd.Intn(len(b)+1)]
	case 1:
		b = append(b, make([]byte, 1+rnd.Intn(20))...)
	case 2:
		b[rnd.Intn(len(b))] ^= byte(1 << rnd.Intn(8))
	case 3:
		b = append(b, framed([]byte{1, 2, 3})...)
	}
	return file{base, b}
}

// P6.1, P6.8: any files, against the model; opened again, and with power that fails while they are opened.
func TestOpenAny(t *testing.T) {
	rnd := rand.New(rand.NewSource(8))
	for range 5000 {
		var files []file
		base := int64(rnd.Intn(3))
		for range rnd.Intn(6) {
			files = append(files, someFile(rnd, base))
			base += 1 + int64(rnd.Intn(7))
		}
		d := newDisk(t)
		for _, f := range files {
			forged(d, fileName("p", f.base), f.bytes)
		}
		for range rnd.Intn(3) {
			forged(d, fmt.Sprintf("p-%011x.new", rnd.Intn(20)), []byte("new"))
		}
		before := d.Crash(math.MaxInt)
		l := opened(t, d, small)
		m := modelOpen(files)
		agrees(t, fmt.Sprint("Open of ", content(before, "")), d, l, m)
		sound(t, l.All())
		stays(t, d, shown(l))
		failing(t, rnd, before, shown(l))
		if t.Failed() {
			return
		}
	}
}

// sound: P6.8, valid and consecutive.
func sound(t *testing.T, l []api.Batch) {
	t.Helper()
	var free int64
	for _, b := range l {
		if rec.Valid(b) != api.OK || b.Base < free {
			t.Errorf("%v, from %d on", b, free)
		}
		free = rec.Next(b)
	}
}

// stays: opening a log again gives the same, and changes no file.
func stays(t *testing.T, d *disk.Disk, want string) {
	t.Helper()
	files := content(d, "")
	for range 2 {
		if got := shown(opened(t, d, small)); got != want || content(d, "") != files {
			t.Errorf("opened again: %s, not %s; the files are %s, not %s", got, want, content(d, ""), files)
		}
	}
}

// failing lets the power fail at each change of Open, and opens what is left then.
func failing(t *testing.T, rnd *rand.Rand, d *disk.Disk, want string) {
	t.Helper()
	for fuse := 1; ; fuse++ { // 0 would be power that had failed before
		torn := d.Crash(math.MaxInt)
		torn.Fuse(fuse)
		l, err := tryOpen(torn)
		if err == api.OK {
			if shown(l) != want {
				t.Errorf("Fuse(%d): %s, not %s", fuse, shown(l), want)
			}
			return
		}
		if err != api.ErrDown || l != nil {
			t.Fatalf("Fuse(%d): %v, %d; the files were %s", fuse, l, err, content(d, ""))
		}
		back := torn.Crash(rnd.Intn(50), rnd.Intn(50))
		if got := shown(opened(t, back, small)); got != want {
			t.Errorf("Fuse(%d), then opened: %s, not %s; the files were %s, then %s", fuse, got, want, content(d, ""), content(torn, ""))
		}
	}
}

// P6.8: files of any bytes.
func TestOpenRubbish(t *testing.T) {
	rnd := rand.New(rand.NewSource(4))
	for range 3000 {
		d := newDisk(t)
		for range 1 + rnd.Intn(4) {
			b := make([]byte, rnd.Intn(60))
			for i := range b {
				b[i] = pick(rnd, 0, 1, 3, 83, 255, byte(rnd.Intn(256)))
			}
			base := rnd.Int63n(4)
			name := fmt.Sprintf("p-%011x%s", base, pick(rnd, ".log", ".log", ".new"))
			if rnd.Intn(3) == 0 {
				b = append(head(uint64(base), 0), b...)
			}
			forged(d, name, b)
		}
		before := d.Crash(math.MaxInt)
		l := opened(t, d, small)
		sound(t, l.All())
		stays(t, d, shown(l))
		failing(t, rnd, before, shown(l))
	}
}

// P6.8: each byte of a log's files changed, and the files cut off at each byte: what is opened is a prefix, or has lost what was behind.
func TestOpenSpoilt(t *testing.T) {
	d, l := filled(t, 5)
	all := l.All()
	for _, name := range d.Names("") {
		raw, _ := d.Read(name)
		for i := range raw {
			for _, how := range []func() []byte{
				func() []byte { c := slices.Clone(raw); c[i] ^= 0x21; return c },
				func() []byte { return raw[:i] },
			} {
				c := d.Crash(math.MaxInt)
				c.Remove(name)
				forged(c, name, how())
				x := opened(t, c, small)
				cut := len(how()) < len(raw) && (i == 11 || i == 32) // between two frames: the batches behind are not missed
				if got := x.All(); !cut && !sameBatches(got, all[:min(len(got), len(all))]) {
					t.Errorf("%s, byte %d: %v", name, i, got)
				}
				sound(t, x.All())
				stays(t, c, shown(x))
			}
		}
	}
}
