package expr_test

import (
	"fmt"
	"slices"
	"strings"
	"testing"

	"towpath/api"
	"towpath/expr"
)

// check: whether a program is valid, by Check and by Run, which tells it ahead of what else is wrong.
func check(t *testing.T, what string, p []expr.Op, ok bool) {
	t.Helper()
	want := api.ErrTable
	if ok {
		want = api.OK
	}
	q := append(slices.Clone(p), make([]expr.Op, 4)...)
	before := slices.Clone(q)
	if err := expr.Check(q[:len(p)]...); err != want {
		t.Errorf("%s: Check(%s): %d, not %d", what, show(p), err, want)
	}
	if !slices.Equal(q, before) {
		t.Errorf("%s: Check changes the program", what)
	}
	if ok {
		want = api.ErrArg
	}
	if v, n, err := expr.Run(p, expr.In{}, -1); v != none || n != 0 || err != want {
		t.Errorf("%s: Run(%s): %+v, %d, %d, not %d", what, show(p), v, n, err, want)
	}
	if ok != sound(p) {
		t.Errorf("%s: a wrong test", what)
	}
}

// P19.1: 1 to 64 operations.
func TestCheckLengths(t *testing.T) {
	check(t, "nil", nil, false)
	check(t, "empty", []expr.Op{}, false)
	for k := 1; k <= 130; k++ {
		check(t, fmt.Sprint(k, " operations"), slices.Repeat(prog("1"), k), k <= 64)
	}
	check(t, "many operations", slices.Repeat(prog("none"), 100000), false)
}

// P19.1: the codes from 1 to 37, alone and at each place among others; N and S where a code has them, and where it has none.
func TestCheckOperations(t *testing.T) {
	codes := []int{least, -1 << 32, -3, -2, 1 << 32, 1<<32 + 1, greatest}
	for c := -1; c <= 260; c++ {
		codes = append(codes, c)
	}
	for _, c := range codes {
		known := 1 <= c && c <= 37
		number, text, jump := c == 1, c == 2, c == 36 || c == 37
		for k := 1; k <= 4; k++ {
			for at := range k {
				with := func(o expr.Op) []expr.Op {
					p := slices.Repeat(prog("1"), k)
					p[at] = o
					return p
				}
				what := fmt.Sprint("code ", c, " at ", at, " of ", k)
				check(t, what, with(expr.Op{Code: c}), known)
				for _, n := range []int64{1, 2, 3, 4, 5, 64, 65, -1, -2, least, greatest, 1 << 32, 1<<32 + 1, -1 << 32} {
					check(t, what+", N", with(expr.Op{Code: c, N: n}), number || jump && 0 <= n && n <= int64(k))
					check(t, what+", N and S", with(expr.Op{Code: c, N: n, S: "a"}), false)
				}
				for _, s := range []string{"a", "\x00", strings.Repeat("x", 1023), strings.Repeat("x", 1024)} {
					check(t, what+", S", with(expr.Op{Code: c, S: s}), text)
				}
				for _, long := range []int{1025, 5000} {
					check(t, what+", a long S", with(expr.Op{Code: c, S: strings.Repeat("x", long)}), false)
				}
			}
		}
	}
}

// P19.1: a jump goes to an operation, or behind the last one.
func TestCheckJumps(t *testing.T) {
	for _, w := range []string{"jump", "when"} {
		for k := 1; k <= 64; k++ {
			for _, n := range []int{-1, 0, 1, k - 1, k, k + 1, k + 2, 63, 64, 65, 66} {
				p := append(slices.Repeat(prog("1"), k-1), to(w, n))
				check(t, fmt.Sprint(w, " to ", n, " of ", k), p, 0 <= n && n <= k)
			}
		}
	}
}

// P19.1: one operation that may not be is enough, wherever it is.
func TestCheckPlaces(t *testing.T) {
	for k := range 64 {
		p := slices.Repeat(prog("1 'a add jump:64"), 16)
		check(t, "a whole program", p, true)
		for _, o := range []expr.Op{{}, {Code: 38}, {Code: 3, N: 1}, {Code: 1, S: "a"}, {Code: 2, N: 1}, {Code: 36, N: 65}, {Code: 37, N: -1}} {
			q := slices.Clone(p)
			q[k] = o
			check(t, fmt.Sprint("at ", k), q, false)
		}
	}
}

// P19.2: the word of each code, and the code of each word.
func TestWords(t *testing.T) {
	if len(words) != 35 {
		t.Fatal(len(words))
	}
	for i, w := range words {
		if got := expr.Word(i + 3); got != w {
			t.Errorf("Word(%d): %q, not %q", i+3, got, w)
		}
		if got := expr.Code(w); got != i+3 {
			t.Errorf("Code(%q): %d, not %d", w, got, i+3)
		}
		for _, none := range []string{strings.ToUpper(w), " " + w, w + " ", w + ":", w + ":0", w[:len(w)-1], w + w, w + "s", "\"" + w + "\""} {
			if got := expr.Code(none); got != 0 && words[got-3] != none {
				t.Errorf("Code(%q): %d", none, got)
			}
		}
	}
	for _, c := range []int{0, 1, 2, 38, 39, 64, 256, 1000, -1, -2, -3, -37, least, greatest, 1 << 32, 1<<32 + 3} {
		if got := expr.Word(c); got != "" {
			t.Errorf("Word(%d): %q", c, got)
		}
	}
	for _, w := range []string{"", " ", "0", "1", "3", "?", "number", "string", "\"\"", "(a number)", "word", "\x00", strings.Repeat("add", 1000)} {
		if got := expr.Code(w); got != 0 {
			t.Errorf("Code(%q): %d", w, got)
		}
	}
}

// join: programs joined come to this; they stay as they are, and share no memory with the result.
func join(t *testing.T, want []expr.Op, ps ...[]expr.Op) {
	t.Helper()
	var args, before [][]expr.Op
	for _, p := range ps {
		q := append(slices.Clone(p), prog("old old")...)
		before = append(before, slices.Clone(q))
		args = append(args, q[:len(p)])
	}
	got := expr.Join(args...)
	if !slices.Equal(got, want) {
		t.Errorf("Join: %s, not %s", show(got), show(want))
	}
	again := expr.Join(args...)
	for i := range got {
		got[i] = expr.Op{Code: 99}
	}
	_ = append(got, expr.Op{Code: 98})
	for i, p := range args {
		if !slices.Equal(p[:len(before[i])], before[i]) {
			t.Errorf("Join: argument %d is another one", i)
		}
		for j := range p {
			p[j].N = 77
		}
	}
	if !slices.Equal(again, want) {
		t.Error("Join: results share memory")
	}
}

// P19.1: programs one behind the other, with their jumps.
func TestJoin(t *testing.T) {
	loop := prog("1 when:0")
	join(t, nil)
	join(t, nil, nil)
	join(t, nil, nil, []expr.Op{}, nil)
	join(t, loop, loop)
	join(t, prog("1 when:0 1 when:2"), loop, loop)
	join(t, prog("1 when:0 1 when:2 1 when:4"), loop, nil, loop, []expr.Op{}, loop, nil)
	join(t, prog("jump:1 jump:1 jump:2 jump:3 'a"), prog("jump:1"), prog("jump:0 jump:1"), nil, prog("jump:0 'a"))
	join(t, prog("7 -3 jump:5 add 'b"), prog("7 -3"), prog("jump:3"), prog("add 'b"))
	join(t, slices.Repeat(prog("1"), 200), slices.Repeat(prog("1"), 150), slices.Repeat(prog("1"), 50))
}

// P19.1: programs that are none are joined, too, but only a jump and a when have their N moved.
func TestJoinAnything(t *testing.T) {
	for c := -2; c <= 40; c++ {
		for _, at := range []int64{0, 3, -5, greatest - 2, least} {
			moved := at
			if c == 36 || c == 37 {
				moved += 2
			}
			join(t, []expr.Op{do("key"), do("key"), {Code: c, N: moved, S: "s"}}, prog("key key"), []expr.Op{{Code: c, N: at, S: "s"}})
			join(t, []expr.Op{{Code: c, N: at, S: "s"}, do("key")}, nil, []expr.Op{{Code: c, N: at, S: "s"}}, prog("key"))
		}
	}
}
