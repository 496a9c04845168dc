package topo_test

import (
	"encoding/binary"
	"fmt"
	"math/rand"
	"slices"
	"strings"
	"testing"

	"towpath/api"
	"towpath/expr"
	"towpath/topo"
)

// P20.3: where each field stands in a body, byte by byte.
func TestBody(t *testing.T) {
	x := topo.Table{Stores: 3, Topics: 2, Steps: 300,
		Nodes: []topo.Node{
			{In: -1},
			{Kind: topo.Window, Store: 2, Size: 129, Grace: 4, A: []expr.Op{{Code: 1, N: -2}}},
			{Kind: topo.Branch, In: 1, Arms: [][]expr.Op{{{Code: 4}}, {{Code: 2, S: "ab"}, {Code: 37, N: 2}}}},
			{Kind: topo.Look, In: 2, Arm: 2, Store: 1, A: []expr.Op{{Code: 4}}, B: []expr.Op{{Code: 5}}},
			{Kind: topo.Flow, In: 2, Arm: 1, A: []expr.Op{{Code: 5}}, Rows: []topo.Row{{"a", "b", "cd", ""}, {"", "", "", "e"}}},
			{Kind: topo.Sink, In: 4, Topic: 1, Spread: true},
		},
		Puncts: []topo.Punct{{Every: 200, Store: 1, Topic: 1, A: []expr.Op{{Code: 9}}}},
	}
	want := "\x03\x02\xac\x02\x06" +
		"\x00\x00\x00\x00\x00\x00\x00\x00\x00\x00\x00\x00" +
		"\x07\x01\x00\x02\x00\x00\x81\x01\x04" + "\x01\x01\x03\x00" + "\x00\x00\x00" +
		"\x03\x02\x00\x00\x00\x00\x00\x00" + "\x00\x00" + "\x02" + "\x01\x04\x00\x00" + "\x02\x02\x00\x02ab\x25\x04\x00" + "\x00" +
		"\x05\x03\x02\x01\x00\x00\x00\x00" + "\x01\x04\x00\x00" + "\x01\x05\x00\x00" + "\x00\x00" +
		"\x06\x03\x01\x00\x00\x00\x00\x00" + "\x01\x05\x00\x00" + "\x00\x00" + "\x02" + "\x01a\x01b\x02cd\x00" + "\x00\x00\x00\x01e" +
		"\x09\x05\x00\x00\x01\x01\x00\x00" + "\x00\x00\x00\x00" +
		"\x01" + "\xc8\x01\x01\x01" + "\x01\x09\x00\x00"
	valid(t, "a table", x)
	if b, err := topo.Encode(x); err != api.OK || string(b) != string(sealed([]byte(want))) {
		t.Errorf("Encode: %x, not %x", b, want)
	}
	if string(body(x)) != want {
		t.Errorf("a wrong test: %x, not %x", body(x), want)
	}
}

// P20.3: a body of just as many bytes as may be, and one more.
func TestLongBodies(t *testing.T) {
	for _, size := range []int{api.MaxBody - 1, api.MaxBody, api.MaxBody + 1, api.MaxBody + 60000} {
		long := []expr.Op{{Code: 2, S: strings.Repeat("x", 1024)}}
		x := topo.Table{Stores: 1, Steps: 1, Nodes: []topo.Node{{In: -1}, {Kind: topo.Branch}, {Kind: topo.Fold, A: slices.Repeat(long, 64)}}}
		for range 4 {
			x.Nodes[1].Arms = append(x.Nodes[1].Arms, slices.Repeat(long, 64))
		}
		shorten(x, size)
		if len(body(x)) != size {
			t.Fatal("a wrong test:", len(body(x)), size)
		}
		valid(t, fmt.Sprint(size, " bytes"), x)
		if _, err := topo.Encode(x); (err == api.OK) != (size <= api.MaxBody) {
			t.Error(size, "bytes:", err)
		}
		x.Nodes[0].In = 0
		invalid(t, fmt.Sprint(size, " bytes, not valid"), x, 0)
	}
}

// shorten cuts strings of a table until its body has so many bytes. They stay so long that their lengths take as many bytes as before.
func shorten(x topo.Table, size int) {
	for _, n := range x.Nodes {
		for _, p := range append(slices.Clone(n.Arms), n.A) {
			for i := range p {
				if over := len(body(x)) - size; over > 0 {
					p[i].S = p[i].S[min(over, len(p[i].S)-200):]
				}
			}
		}
	}
}

// P20.3: what is no frame, is cut off, goes on, or has a byte changed.
func TestNoEncoding(t *testing.T) {
	none := func(what string, b []byte) {
		t.Helper()
		if x, err := topo.Decode(b); err != api.ErrForm || tell(x) != tell(topo.Table{}) {
			t.Errorf("%s: Decode(%.100x): %.200s, %d", what, b, tell(x), err)
		}
	}
	none("nil", nil)
	none("nothing", []byte{})
	none("an empty frame", sealed(nil))
	none("a text", []byte("no table"))
	b, _ := topo.Encode(whole())
	plain := body(whole())
	none("a body alone", plain)
	for i := range b {
		none("cut off", b[:i])
		none("cut off ahead", b[i+1:])
		for v := 1; v < 256; v++ {
			c := slices.Clone(b)
			c[i] ^= byte(v)
			none("one byte changed", c)
		}
	}
	for i := range plain {
		none("a body that is cut off", sealed(plain[:i]))
	}
	for _, more := range [][]byte{{0}, {1}, make([]byte, 12), b} {
		none("goes on", slices.Concat(b, more))
		none("begins later", slices.Concat(more, b))
		none("a body that goes on", sealed(slices.Concat(plain, more)))
	}
	if _, err := topo.Decode(b); err != api.OK {
		t.Error("a whole one:", err)
	}
}

// replaced is a body with one of its parts replaced.
func replaced(l []part, i int, b []byte) []byte {
	c := slices.Clone(l)
	c[i].b = b
	return joined(c)
}

// P20.3: each number of a body at the greatest that may be, and one more; in more bytes than it wants; each flag and each length that is none.
func TestParts(t *testing.T) {
	l := parts(whole())
	for i, p := range l {
		what := fmt.Sprintf("part %d (%c %x)", i, p.what, p.b)
		if p.what != 'f' {
			long := slices.Clone(p.b[:1])
			long[0] |= 0x80
			rest := slices.Clone(p.b[1:])
			if n, k := binary.Uvarint(p.b); k > 1 || p.what != 's' {
				long = uint(n)
				long[len(long)-1] |= 0x80
				rest = p.b[k:]
			}
			undecoded(t, what+", written longer", replaced(l, i, slices.Concat(long, []byte{0}, rest)), api.ErrForm)
			undecoded(t, what+", written much longer", replaced(l, i, slices.Concat(long, []byte{0x80, 0}, rest)), api.ErrForm)
			undecoded(t, what+", written without an end", replaced(l, i, slices.Repeat([]byte{0xff}, 11)), api.ErrForm)
		}
		switch p.what {
		case 'u':
			undecoded(t, what+", below 2^41", replaced(l, i, uint(1<<41-1)), api.ErrTable)
			undecoded(t, what+", 2^40 + 1", replaced(l, i, uint(1<<40+1)), api.ErrTable)
		case 'i':
			undecoded(t, what+", below 2^41", replaced(l, i, uint(1<<41-1)), api.ErrTable)
		case 'c':
			for _, n := range []uint64{1 << 41, 1<<41 - 1, 1 << 40, 1 << 31, 1 << 20, 5000} {
				undecoded(t, what+", a great number", replaced(l, i, uint(n)), api.ErrForm)
			}
		case 'f':
			for v := range 256 {
				if v > 1 {
					undecoded(t, what+", no flag", replaced(l, i, []byte{byte(v)}), api.ErrForm)
				}
			}
		case 's':
			for _, n := range []uint64{5000, 1 << 18, 1<<18 + 1, 1 << 31, 1 << 41, 1 << 62, 1 << 63, 1<<64 - 1} {
				undecoded(t, what+", a great length", replaced(l, i, slices.Concat(uint(n), p.b[1:])), api.ErrForm)
			}
		case 'n':
			numbers(t, what, l, i)
		}
		if p.what != 'n' && p.what != 'f' && p.what != 's' {
			for _, n := range []uint64{1<<41 + 1, 1 << 42, 1 << 62, 1<<63 - 1, 1 << 63, 1<<63 + 1, 1<<64 - 2, 1<<64 - 1} {
				undecoded(t, what+", beyond", replaced(l, i, uint(n)), api.ErrForm)
			}
		}
		if p.what == 'u' {
			undecoded(t, what+", 2^41", replaced(l, i, uint(1<<41)), api.ErrForm)
		}
	}
}

// numbers: an N is what it is, however great.
func numbers(t *testing.T, what string, l []part, i int) {
	t.Helper()
	code, _ := binary.Uvarint(l[i-1].b)
	for _, n := range []int64{least, -1 << 41, -1 << 32, 1 << 41, 1<<41 - 1, greatest} {
		b := replaced(l, i, binary.AppendVarint(nil, n))
		if code != 1 {
			undecoded(t, what+", an N", b, api.ErrTable)
			continue
		}
		x, err := topo.Decode(sealed(b))
		if err != api.OK || string(body(x)) != string(b) || !strings.Contains(tell(x), fmt.Sprint("N:", n, " ")) {
			t.Errorf("%s: N %d: %.200s, %d", what, n, tell(x), err)
		}
	}
}

// P20.3: an encoding of a table that is not valid.
func TestDecodeInvalid(t *testing.T) {
	undecoded(t, "no nodes", body(topo.Table{Steps: 1}), api.ErrTable)
	undecoded(t, "nothing", body(topo.Table{}), api.ErrTable)
	many := topo.Table{Steps: 1, Nodes: append([]topo.Node{{In: -1}}, make([]topo.Node, 20000)...)}
	undecoded(t, "many nodes", body(many), api.ErrTable)
	many = topo.Table{Steps: 1, Nodes: []topo.Node{{In: -1}}, Puncts: make([]topo.Punct, 50000)}
	undecoded(t, "many puncts", body(many), api.ErrTable)
	ops := whole()
	ops.Nodes[1].A = slices.Repeat(prog("1"), 80000)
	undecoded(t, "many operations", body(ops), api.ErrTable)
	arms := whole()
	arms.Nodes[3].Arms = make([][]expr.Op, 200000)
	undecoded(t, "many arms", body(arms), api.ErrTable)
	rows := whole()
	rows.Nodes[6].Rows = make([]topo.Row, 60000)
	undecoded(t, "many rows", body(rows), api.ErrTable)
	text := whole()
	text.Nodes[6].Rows[0].Out = strings.Repeat("x", 200000)
	undecoded(t, "a long string", body(text), api.ErrTable)
	text = whole()
	text.Nodes[1].A[0] = expr.Op{Code: 2, S: strings.Repeat("x", 200000)}
	undecoded(t, "a long S", body(text), api.ErrTable)
	for _, in := range []int{-1, 0, 1, 2, 100} { // In + 1 cannot be below 0
		x := whole()
		x.Nodes[1].In = in
		if in != 0 {
			undecoded(t, fmt.Sprint("In ", in), body(x), api.ErrTable)
		}
	}
}

// decode is a model of Decode of a body, but for Check. Each of its steps takes what is left.
type decode struct {
	b   []byte
	bad bool
}

func (d *decode) raw() uint64 {
	n, k := binary.Uvarint(d.b)
	if k <= 0 || len(uint(n)) != k {
		d.bad, d.b = true, nil
		return 0
	}
	d.b = d.b[k:]
	return n
}

func (d *decode) u() int {
	n := d.raw()
	d.bad = d.bad || n >= 1<<41
	return int(n)
}

func (d *decode) s() string {
	n := d.raw()
	if n > uint64(len(d.b)) {
		d.bad, d.b = true, nil
		return ""
	}
	s := string(d.b[:n])
	d.b = d.b[n:]
	return s
}

func (d *decode) each(f func()) {
	for n := d.u(); n > 0 && !d.bad; n-- {
		f()
	}
}

func (d *decode) program() (p []expr.Op) {
	d.each(func() {
		o := expr.Op{Code: d.u()}
		n := d.raw()
		o.N = int64(n >> 1)
		if n&1 == 1 {
			o.N = -o.N - 1
		}
		o.S = d.s()
		p = append(p, o)
	})
	return p
}

func (d *decode) table() (x topo.Table) {
	x.Stores, x.Topics, x.Steps = d.u(), d.u(), d.u()
	d.each(func() {
		var n topo.Node
		n.Kind, n.In, n.Arm, n.Store, n.Topic = d.u(), d.u()-1, d.u(), d.u(), d.u()
		flag := d.raw()
		d.bad = d.bad || flag > 1
		n.Spread = flag == 1
		n.Size, n.Grace = int64(d.u()), int64(d.u())
		n.A, n.B = d.program(), d.program()
		d.each(func() { n.Arms = append(n.Arms, d.program()) })
		d.each(func() { n.Rows = append(n.Rows, topo.Row{From: d.s(), On: d.s(), To: d.s(), Out: d.s()}) })
		x.Nodes = append(x.Nodes, n)
	})
	d.each(func() {
		x.Puncts = append(x.Puncts, topo.Punct{Every: int64(d.u()), Store: d.u(), Topic: d.u(), A: d.program()})
	})
	d.bad = d.bad || len(d.b) > 0
	return x
}

// P20.3, P20.4: bodies that are changed by chance, beside the model; what is decoded is encoded to the same bytes.
func TestDecodeByChance(t *testing.T) {
	tally := map[api.Errno]int{}
	for seed := range int64(10000) {
		rnd := rand.New(rand.NewSource(seed))
		l := parts(anyTable(rnd))
		for range rnd.Intn(3) {
			i := rnd.Intn(len(l))
			n, k := binary.Uvarint(l[i].b)
			switch rnd.Intn(4) {
			case 0:
				l[i].b = slices.Concat(uint(n+1), l[i].b[k:])
			case 1:
				l[i].b = slices.Concat(uint(max(n, 1)-1), l[i].b[k:])
			case 2:
				l[i].b = slices.Concat(l[i].b, []byte{byte(rnd.Intn(4))})
			default:
				l[i].b = slices.Clone(l[i].b)
				l[i].b[rnd.Intn(len(l[i].b))] = byte(rnd.Intn(256))
			}
		}
		b := joined(l)
		d := decode{b: b}
		x := d.table()
		want := api.ErrForm
		if !d.bad {
			_, want = model(x)
		}
		tally[want]++
		if want != api.OK {
			undecoded(t, "changed", b, want)
		} else if y, err := topo.Decode(sealed(b)); err != want || tell(x) != tell(y) || string(body(y)) != string(b) {
			t.Errorf("changed: Decode: %s, %d, not %s", tell(y), err, tell(x))
		} else if c, err := topo.Encode(y); err != api.OK || string(c) != string(sealed(b)) {
			t.Errorf("Encode of Decode: %x, %d, not %x", c, err, sealed(b))
		}
		if t.Failed() {
			t.Fatal("seed", seed)
		}
	}
	if tally[api.OK] < 1000 || tally[api.ErrForm] < 1000 || tally[api.ErrTable] < 1000 {
		t.Error(tally)
	}
}
