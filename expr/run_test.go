package expr_test

import (
	"fmt"
	"math/rand"
	"slices"
	"strings"
	"testing"

	"towpath/api"
	"towpath/expr"
)

// The chapter's examples.
func TestExamples(t *testing.T) {
	p := prog("value num 1 add")
	if v, k, err := run(t, p, expr.In{Value: s("41")}, 100); v != n(42) || k != 4 || err != api.OK {
		t.Error("over 41:", v, k, err)
	}
	fails(t, p, expr.In{Value: s("x")}, 100, 3, api.ErrKind)
	fails(t, prog("0 when:0"), expr.In{}, 100, 2, api.ErrStack)
	fails(t, prog("1 when:0"), expr.In{}, 10, 10, api.ErrSteps)
	join(t, prog("1 when:0 1 when:2"), prog("1 when:0"), prog("1 when:0"))
	printed(t, `"a\"b\x0a"`, expr.Op{Code: 2, S: "a\"b\n"})
	if _, at, err := expr.Parse(`1 "a\x41"`); at != 2 || err != api.ErrForm {
		t.Error(`1 "a\x41":`, at, err)
	}
}

// P19.1: how many steps may be allowed, how many are executed, and what ends ahead of them.
func TestSteps(t *testing.T) {
	for _, steps := range []int{least, -4096, -2, -1, 4097, 4098, 8192, 1 << 32, greatest} {
		fails(t, prog("1"), expr.In{}, steps, 0, api.ErrArg)
		fails(t, prog("add"), expr.In{}, steps, 0, api.ErrArg)
		fails(t, nil, expr.In{}, steps, 0, api.ErrTable)
	}
	for _, steps := range []int{1, 2, 64, 4095, 4096} {
		if v, k, err := run(t, prog("7"), expr.In{}, steps); v != n(7) || k != 1 || err != api.OK {
			t.Error("7 in", steps, "steps:", v, k, err)
		}
		fails(t, prog("jump:0"), expr.In{}, steps, steps, api.ErrSteps)
		fails(t, prog("1 drop jump:0"), expr.In{}, steps, steps, api.ErrSteps)
	}
	fails(t, prog("7"), expr.In{}, 0, 0, api.ErrSteps)
	fails(t, prog("add"), expr.In{}, 0, 0, api.ErrSteps)
	for k := 1; k <= 64; k += 3 {
		p := append(prog("7"), slices.Repeat(prog("dup swap drop"), (k-1)/3)...)
		if v, done, err := run(t, p, expr.In{}, len(p)); v != n(7) || done != len(p) || err != api.OK {
			t.Error(len(p), "steps:", v, done, err)
		}
		fails(t, p, expr.In{}, len(p)-1, len(p)-1, api.ErrSteps)
	}
}

// P19.1: what a program counts to in steps, the most that are allowed among them.
func TestLoops(t *testing.T) {
	for _, k := range []int64{0, 1, 2, 5, 100, 818} {
		p := over(do("dup"), n(k))
		p = append(p, prog("when:4 jump:7 1 sub jump:1")...) // counts down to 0
		want := int(5*k + 4)
		for _, steps := range []int{want, want + 1, 4096} {
			if v, done, err := run(t, p, expr.In{}, steps); v != n(0) || done != want || err != api.OK {
				t.Error("down from", k, "in", steps, "steps:", v, done, err)
			}
		}
		fails(t, p, expr.In{}, want-1, want-1, api.ErrSteps)
	}
	fails(t, prog("819 dup when:4 jump:7 1 sub jump:1"), expr.In{}, 4096, 4096, api.ErrSteps)
	fails(t, prog("5000 dup when:4 jump:7 1 sub jump:1"), expr.In{}, 4096, 4096, api.ErrSteps)
}

// P19.1: what a program may be executed over.
func TestIn(t *testing.T) {
	long := strings.Repeat("x", 1025)
	ok := []expr.Val{none, n(0), n(least), n(greatest), s(""), s("a"), s(long[:1024])}
	wrong := []expr.Val{
		{N: 1}, {S: "a"}, {N: 1, S: "a"}, {S: long},
		{Kind: expr.Num, S: "a"}, {Kind: expr.Num, N: 1, S: "a"}, {Kind: expr.Num, S: long},
		{Kind: expr.Text, N: 1}, {Kind: expr.Text, N: -1, S: "a"}, s(long), s(long + long),
		{Kind: 3}, {Kind: 3, N: 1}, {Kind: 3, S: "a"}, {Kind: 4}, {Kind: -1}, {Kind: least}, {Kind: greatest}, {Kind: 1 << 32}, {Kind: 1<<32 + 1}, {Kind: 256},
	}
	places := map[string]func(expr.Val) expr.In{
		"value": func(v expr.Val) expr.In { return expr.In{Value: v} },
		"old":   func(v expr.Val) expr.In { return expr.In{Old: v} },
		"side":  func(v expr.Val) expr.In { return expr.In{Side: v} },
	}
	for w, in := range places {
		for _, v := range ok {
			gives(t, prog(w), in(v), v)
			gives(t, prog("7"), in(v), n(7))
		}
		for _, v := range wrong {
			for _, steps := range []int{-1, 0, 1, 4096, 4097} {
				fails(t, prog(w), in(v), steps, 0, api.ErrArg)
				fails(t, prog("7"), in(v), steps, 0, api.ErrArg)
				fails(t, prog("add"), in(v), steps, 0, api.ErrArg)
				fails(t, prog("jump:2"), in(v), steps, 0, api.ErrTable)
			}
		}
	}
	for _, key := range []string{"", "k", "\x00\xff", long[:1023], long[:1024]} {
		gives(t, prog("key"), expr.In{Key: key}, s(key))
	}
	for _, key := range []string{long, long + long} {
		fails(t, prog("key"), expr.In{Key: key}, 1, 0, api.ErrArg)
		fails(t, prog("7"), expr.In{Key: key}, 0, 0, api.ErrArg)
		fails(t, nil, expr.In{Key: key}, 1, 0, api.ErrTable)
	}
	for _, at := range []int64{0, 1, -1, api.MaxTime, api.MaxTime + 1, least, greatest} {
		gives(t, prog("time"), expr.In{Time: at, Now: 3}, n(at))
		gives(t, prog("now"), expr.In{Time: 3, Now: at}, n(at))
	}
	in := expr.In{Key: "k", Value: s("v"), Time: 5, Now: 6, Old: s("o"), Side: n(4)}
	gives(t, prog("key value cat old cat time text cat now text cat side text cat"), in, s("kvo564"))
}

// P19.1: each operation with operands of each kind, and with fewer than it takes.
func TestOperands(t *testing.T) {
	kinds := []expr.Val{none, n(3), s("a;b")}
	for _, w := range words {
		o := do(w)
		if w == "jump" || w == "when" {
			o.N = 4
		}
		k := len(takes[w])
		for few := range k {
			for _, v := range kinds {
				p := over(o, slices.Repeat([]expr.Val{v}, few)...)
				for len(p) < 4 {
					p = append(p, do("none"))
				}
				fails(t, p, expr.In{}, 4096, few, api.ErrStack)
			}
		}
		for choice := range 27 {
			vs := []expr.Val{kinds[choice%3], kinds[choice/3%3], kinds[choice/9]}[:k]
			p := over(o, vs...)
			for len(p) < 4 {
				p = append(p, prog("jump:4")[0])
			}
			right := true
			for i, v := range vs {
				right = right && fit(takes[w][i], plain(v)) && (w != "lt" || v.Kind == vs[0].Kind)
			}
			_, done, err := run(t, p, expr.In{}, 4096)
			if right && (err != api.OK && err != api.ErrStack || done <= k) {
				t.Errorf("%s over %v: %d after %d steps", w, vs, err, done)
			}
			if !right && (err != api.ErrKind || done != k) {
				t.Errorf("%s over %v: %d after %d steps, not ErrKind after %d", w, vs, err, done, k)
			}
		}
	}
}

// P19.1: each operation over many values, beside the model.
func TestOperations(t *testing.T) {
	vs := someValues()
	for _, w := range words {
		o := do(w)
		if w == "jump" || w == "when" {
			o.N = 1
		}
		switch len(takes[w]) {
		case 0:
			run(t, over(o), expr.In{}, 10)
		case 1:
			for _, a := range vs {
				run(t, over(o, a), expr.In{}, 10)
			}
		case 2:
			for _, a := range vs {
				for _, b := range vs {
					run(t, over(o, a, b), expr.In{}, 10)
					run(t, append(over(o, a, b), do("drop")), expr.In{}, 10) // what is below, if two are left
				}
			}
		case 3:
			for _, a := range vs {
				for _, b := range vs {
					for _, c := range vs {
						run(t, over(o, a, b, c), expr.In{}, 10)
					}
				}
			}
		}
	}
}

func TestArithmetic(t *testing.T) {
	for _, c := range []struct {
		word    string
		a, b, c int64
	}{
		{"add", 1, 2, 3},
		{"add", greatest, 1, least},
		{"add", least, -1, greatest},
		{"add", least, least, 0},
		{"sub", 1, 2, -1},
		{"sub", least, 1, greatest},
		{"sub", greatest, -1, least},
		{"sub", 0, least, least},
		{"mul", -3, 4, -12},
		{"mul", least, -1, least},
		{"mul", greatest, 2, -2},
		{"mul", 1 << 32, 1 << 32, 0},
		{"mul", greatest, greatest, 1},
		{"div", 7, 2, 3},
		{"div", -7, 2, -3},
		{"div", 7, -2, -3},
		{"div", -7, -2, 3},
		{"div", 7, 1, 7},
		{"div", 7, -1, -7},
		{"div", least, -1, least},
		{"div", least, 1, least},
		{"div", greatest, -1, -greatest},
		{"div", 0, 5, 0},
		{"div", 1, least, 0},
		{"div", least, least, 1},
		{"mod", 7, 2, 1},
		{"mod", -7, 2, -1},
		{"mod", 7, -2, 1},
		{"mod", -7, -2, -1},
		{"mod", 7, 1, 0},
		{"mod", 7, -1, 0},
		{"mod", least, -1, 0},
		{"mod", least, 10, -8},
		{"mod", 3, 5, 3},
		{"mod", 1, least, 1},
		{"min", 1, 2, 1},
		{"min", 2, 1, 1},
		{"min", least, greatest, least},
		{"min", -1, 0, -1},
		{"max", 1, 2, 2},
		{"max", 2, 1, 2},
		{"max", least, greatest, greatest},
		{"max", -1, 0, 0},
		{"and", 2, -1, 1},
		{"and", 2, 0, 0},
		{"and", 0, 2, 0},
		{"and", 0, 0, 0},
		{"and", 1, 2, 1},
		{"or", 2, 4, 1},
		{"or", least, 0, 1},
		{"or", 0, -2, 1},
		{"or", 0, 0, 0},
		{"or", 3, -3, 1},
		{"eq", 4, 4, 1},
		{"eq", 4, -4, 0},
		{"lt", 1, 2, 1},
		{"lt", 2, 2, 0},
		{"lt", 3, 2, 0},
		{"lt", least, greatest, 1},
		{"lt", greatest, least, 0},
	} {
		gives(t, over(do(c.word), n(c.a), n(c.b)), expr.In{}, n(c.c))
	}
	for _, c := range []struct {
		word string
		a, b int64
	}{{"neg", 5, -5}, {"neg", -5, 5}, {"neg", 0, 0}, {"neg", greatest, -greatest}, {"neg", least, least}, {"not", 0, 1}, {"not", 1, 0}, {"not", -1, 0}, {"not", least, 0}, {"not", 2, 0}} {
		gives(t, over(do(c.word), n(c.a)), expr.In{}, n(c.b))
	}
	for _, a := range []int64{0, 1, -1, least, greatest} {
		fails(t, over(do("div"), n(a), n(0)), expr.In{}, 9, 2, api.ErrZero)
		fails(t, over(do("mod"), n(a), n(0)), expr.In{}, 9, 2, api.ErrZero)
	}
}

func TestEqualAndLess(t *testing.T) {
	vs := someValues()
	for i, a := range vs {
		for j, b := range vs {
			same := n(0)
			if i == j {
				same = n(1)
			}
			gives(t, over(do("eq"), a, b), expr.In{}, same)
			if a.Kind != b.Kind || a.Kind == expr.None {
				fails(t, over(do("lt"), a, b), expr.In{}, 9, 2, api.ErrKind)
			}
		}
	}
	for _, c := range []struct {
		a, b string
		less int64
	}{{"", "", 0}, {"", "a", 1}, {"a", "", 0}, {"a", "a", 0}, {"a", "b", 1}, {"b", "a", 0}, {"a", "aa", 1}, {"ab", "b", 1}, {"10", "9", 1}, {"\xff", "a", 0}, {"a", "\x80", 1}, {"Z", "a", 1}, {"\x00", "", 0}} {
		gives(t, over(do("lt"), s(c.a), s(c.b)), expr.In{}, n(c.less))
	}
	gives(t, over(do("eq"), n(7), s("7")), expr.In{}, n(0))
	gives(t, over(do("eq"), none, none), expr.In{}, n(1))
	gives(t, over(do("eq"), none, s("")), expr.In{}, n(0))
	gives(t, over(do("eq"), none, n(0)), expr.In{}, n(0))
	gives(t, over(do("eq"), n(0), s("")), expr.In{}, n(0))
}

func TestStrings(t *testing.T) {
	long := strings.Repeat("x", 1024)
	for _, c := range []struct{ a, b string }{{"", ""}, {"a", ""}, {"", "b"}, {"a", "b"}, {"ab", "\x00\xff"}, {long, ""}, {"", long}, {long[1:], "y"}, {"y", long[1:]}, {long[:512], long[:512]}} {
		gives(t, over(do("cat"), s(c.a), s(c.b)), expr.In{}, s(c.a+c.b))
	}
	for _, c := range []struct{ a, b string }{{long, "y"}, {"y", long}, {long, long}, {long[:512], long[:513]}} {
		fails(t, over(do("cat"), s(c.a), s(c.b)), expr.In{}, 9, 2, api.ErrLong)
	}
	for _, a := range []string{"", "a", "\u00e9", "\x00\xff\x80", long} {
		gives(t, over(do("len"), s(a)), expr.In{}, n(int64(len(a))))
	}
	for _, c := range []struct {
		a, b string
		has  int64
	}{{"", "", 1}, {"a", "", 1}, {"", "a", 0}, {"abc", "bc", 1}, {"abc", "ac", 0}, {"abc", "abc", 1}, {"abc", "abcd", 0}, {"ab\x00", "\x00", 1}, {"aab", "ab", 1}, {"b", "ab", 0}} {
		gives(t, over(do("has"), s(c.a), s(c.b)), expr.In{}, n(c.has))
	}
}

func TestPart(t *testing.T) {
	for _, c := range []struct {
		s       string
		from, n int64
		want    string
	}{
		{"abcde", 0, 2, "ab"},
		{"abcde", 1, 3, "bcd"},
		{"abcde", -1, 2, "ab"},
		{"abcde", least, 1, "a"},
		{"abcde", least, greatest, "abcde"},
		{"abcde", 4, 1, "e"},
		{"abcde", 4, 2, "e"},
		{"abcde", 5, 1, ""},
		{"abcde", 6, 1, ""},
		{"abcde", greatest, greatest, ""},
		{"abcde", greatest, 1, ""},
		{"abcde", 0, 5, "abcde"},
		{"abcde", 0, 6, "abcde"},
		{"abcde", 3, greatest, "de"},
		{"abcde", 1, greatest, "bcde"},
		{"abcde", 0, 0, ""},
		{"abcde", 2, 0, ""},
		{"abcde", 2, -1, ""},
		{"abcde", -5, -1, ""},
		{"abcde", 2, least, ""},
		{"", 0, 1, ""},
		{"", 0, greatest, ""},
		{"", -1, 1, ""},
		{"", 1, 1, ""},
		{"\u00e9x", 1, 1, "\xa9"},
	} {
		gives(t, over(do("part"), s(c.s), n(c.from), n(c.n)), expr.In{}, s(c.want))
	}
}

func TestField(t *testing.T) {
	for _, c := range []struct {
		s    string
		n    int64
		want expr.Val
	}{
		{"a;bc;", -1, none},
		{"a;bc;", 0, s("a")},
		{"a;bc;", 1, s("bc")},
		{"a;bc;", 2, s("")},
		{"a;bc;", 3, none},
		{"a;bc;", least, none},
		{"a;bc;", greatest, none},
		{"a;bc;", 1 << 32, none},
		{"", -1, none},
		{"", 0, s("")},
		{"", 1, none},
		{"abc", 0, s("abc")},
		{"abc", 1, none},
		{";", 0, s("")},
		{";", 1, s("")},
		{";", 2, none},
		{"a;;b", 1, s("")},
		{"a;;b", 2, s("b")},
		{";;;", 3, s("")},
		{";;;", 4, none},
		{"a:b,c d", 0, s("a:b,c d")},
		{strings.Repeat(";", 1024), 1024, s("")},
		{strings.Repeat(";", 1024), 1025, none},
	} {
		gives(t, over(do("field"), s(c.s), n(c.n)), expr.In{}, c.want)
	}
}

// numbers are the texts of numbers, and texts that are none.
var numbers = []struct {
	s  string
	n  int64
	ok bool
}{
	{"0", 0, true}, {"1", 1, true}, {"-1", -1, true}, {"9", 9, true}, {"10", 10, true}, {"-10", -10, true}, {"1234567890", 1234567890, true},
	{"9223372036854775807", greatest, true}, {"-9223372036854775808", least, true}, {"-9223372036854775807", -greatest, true}, {"999999999999999999", 999999999999999999, true},
	{s: "9223372036854775808"}, {s: "-9223372036854775809"}, {s: "18446744073709551616"}, {s: "18446744073709551617"}, {s: "99999999999999999999"}, {s: "-99999999999999999999"}, {s: "1" + strings.Repeat("0", 900)},
	{s: ""}, {s: "-"}, {s: "+"}, {s: "-0"}, {s: "+0"}, {s: "00"}, {s: "01"}, {s: "-01"}, {s: "007"}, {s: "+1"}, {s: "--1"}, {s: "1-"}, {s: "- 1"}, {s: " 1"}, {s: "1 "}, {s: "1 2"}, {s: "\t1"}, {s: "1\n"}, {s: "1\x00"},
	{s: "a"}, {s: "1a"}, {s: "0x1"}, {s: "0b1"}, {s: "0o7"}, {s: "1_000"}, {s: "1e3"}, {s: "1.0"}, {s: "1,0"}, {s: "\u0661"}, {s: "\uff11"}, {s: "\xb2"}, {s: "nan"}, {s: "none"}, {s: "2147483648x"}, {s: "0-"}, {s: "1:"},
}

// P19.1, P19.2: the numbers whose texts strings are.
func TestNumbers(t *testing.T) {
	for _, c := range numbers {
		if k, ok := expr.Number(c.s); k != c.n || ok != c.ok {
			t.Errorf("Number(%q): %d, %v", c.s, k, ok)
		}
		want := none
		if c.ok {
			want = n(c.n)
			gives(t, over(do("text"), n(c.n)), expr.In{}, s(c.s))
			shown(t, n(c.n), c.s)
		}
		gives(t, over(do("num"), s(c.s)), expr.In{}, want)
		gives(t, over(do("text"), s(c.s)), expr.In{}, s(c.s))
	}
	gives(t, prog("none num"), expr.In{}, none)
	gives(t, prog("none text"), expr.In{}, s(""))
	for _, k := range []int64{0, 7, least, greatest} {
		gives(t, over(do("num"), n(k)), expr.In{}, n(k))
	}
}

func TestChoices(t *testing.T) {
	vs := someValues()
	for _, a := range vs {
		is := n(1)
		if a == none {
			is = n(0)
		}
		gives(t, over(do("is"), a), expr.In{}, is)
		gives(t, append(over(do("dup"), a), do("eq")), expr.In{}, n(1))
		gives(t, append(over(do("dup"), a), do("drop")), expr.In{}, a)
		gives(t, over(do("drop"), s("below"), a), expr.In{}, s("below"))
		for _, b := range vs {
			first := a
			if a == none {
				first = b
			}
			gives(t, over(do("else"), a, b), expr.In{}, first)
			gives(t, append(over(do("swap"), a, b), do("drop")), expr.In{}, b)
			gives(t, append(over(do("swap"), a, b), prog("swap drop")...), expr.In{}, a)
			for _, c := range []int64{1, -1, 2, least, greatest, 1 << 32} {
				gives(t, over(do("pick"), a, b, n(c)), expr.In{}, a)
			}
			gives(t, over(do("pick"), a, b, n(0)), expr.In{}, b)
		}
	}
}

// P19.1: jumps to the end, to themselves, back and forth.
func TestJumps(t *testing.T) {
	gives(t, prog("7 jump:4 1 add"), expr.In{}, n(7))
	gives(t, prog("7 jump:3 drop 1 add"), expr.In{}, n(8))
	gives(t, prog("7 jump:2"), expr.In{}, n(7))
	gives(t, prog("jump:1 5"), expr.In{}, n(5))
	gives(t, prog("jump:3 9 jump:5 8 jump:1 add"), expr.In{}, n(17))
	gives(t, prog("7 1 when:5 1 add"), expr.In{}, n(7))
	gives(t, prog("7 0 when:5 1 add"), expr.In{}, n(8))
	for _, c := range []int64{-1, 2, least, greatest, 1 << 32} {
		gives(t, append(over(to("when", 5), n(7), n(c)), prog("1 add")...), expr.In{}, n(7))
	}
	gives(t, prog("7 1 when:3"), expr.In{}, n(7))
	fails(t, prog("jump:0"), expr.In{}, 50, 50, api.ErrSteps)
	fails(t, prog("jump:1"), expr.In{}, 50, 1, api.ErrStack)
	fails(t, prog("1 1 1 when:3"), expr.In{}, 4096, 6, api.ErrStack)
	fails(t, prog("1 when:2"), expr.In{}, 4096, 2, api.ErrStack)
	fails(t, prog("'a when:2"), expr.In{}, 4096, 1, api.ErrKind)
	fails(t, prog("none when:0"), expr.In{}, 4096, 1, api.ErrKind)
	gives(t, prog("5 0 when:1"), expr.In{}, n(5))
}

// P19.1: a stack of 32 values, and one more.
func TestStack(t *testing.T) {
	for _, o := range append(prog("7 'a dup"), prog("none key value time now old side")...) {
		for k := 1; k <= 63; k++ {
			p := append(prog("7"), slices.Repeat([]expr.Op{o}, k)...)
			switch {
			case k >= 32:
				fails(t, p, expr.In{}, 4096, 32, api.ErrStack)
				fails(t, p, expr.In{}, 32, 32, api.ErrSteps) // which is told first
				fails(t, p, expr.In{}, 31, 31, api.ErrSteps)
			case 1+k+k <= 64:
				gives(t, append(p, slices.Repeat(prog("drop"), k)...), expr.In{}, n(7))
				fails(t, p, expr.In{}, 4096, 1+k, api.ErrStack)
			}
		}
	}
	full := slices.Repeat(prog("7"), 32)
	for _, w := range []string{"add", "eq", "swap", "else", "drop", "neg", "pick"} {
		p := append(slices.Clone(full), do(w))
		left := 33 - max(len(takes[w]), 1)
		switch w {
		case "swap", "neg":
			left = 32
		case "drop":
			left = 31
		}
		p = append(p, slices.Repeat(prog("max"), left-1)...)
		gives(t, p[:min(len(p), 64)], expr.In{}, map[string]expr.Val{"add": n(14), "neg": n(7), "eq": n(7), "swap": n(7), "else": n(7), "drop": n(7), "pick": n(7)}[w])
	}
	fails(t, prog("drop"), expr.In{}, 9, 0, api.ErrStack)
	fails(t, prog("7 drop"), expr.In{}, 9, 2, api.ErrStack)
	fails(t, prog("7 7"), expr.In{}, 9, 2, api.ErrStack)
	fails(t, prog("7 dup"), expr.In{}, 9, 2, api.ErrStack)
	fails(t, prog("jump:1"), expr.In{}, 9, 1, api.ErrStack)
}

// P19.1: of faults that meet, which is told.
func TestFaultsThatMeet(t *testing.T) {
	long := strings.Repeat("x", 1024)
	fails(t, prog("add"), expr.In{}, 0, 0, api.ErrSteps)
	fails(t, prog("1 add"), expr.In{}, 1, 1, api.ErrSteps)
	fails(t, prog("1 add"), expr.In{}, 2, 1, api.ErrStack)
	fails(t, prog("'a add"), expr.In{}, 2, 1, api.ErrStack)
	fails(t, prog("'a div"), expr.In{}, 2, 1, api.ErrStack)
	fails(t, prog("0 div"), expr.In{}, 2, 1, api.ErrStack)
	fails(t, prog("'a 0 div"), expr.In{}, 3, 2, api.ErrKind)
	fails(t, prog("none 0 mod"), expr.In{}, 3, 2, api.ErrKind)
	fails(t, prog("'a 0 div"), expr.In{}, 2, 2, api.ErrSteps)
	fails(t, prog("1 0 div"), expr.In{}, 2, 2, api.ErrSteps)
	fails(t, over(do("cat"), s(long), n(1)), expr.In{}, 3, 2, api.ErrKind)
	fails(t, over(do("cat"), n(1), s(long)), expr.In{}, 3, 2, api.ErrKind)
	fails(t, over(do("cat"), s(long), s("y")), expr.In{}, 2, 2, api.ErrSteps)
	fails(t, append(over(do("cat"), s(long), s("y")), do("drop")), expr.In{}, 9, 2, api.ErrLong)
	fails(t, prog("1 0 div drop drop"), expr.In{}, 9, 2, api.ErrZero)
	fails(t, prog("'a 1 2 pick when:9 2 2 2 2"), expr.In{}, 9, 4, api.ErrKind)
	fails(t, prog("jump:1"), expr.In{}, 1, 1, api.ErrStack) // the end is there ahead of the steps'
}

// P19.1, P19.4, P19.5: programs by chance, beside the model, with each number of steps.
func TestRunByChance(t *testing.T) {
	results, faults := 0, map[api.Errno]int{}
	for seed := range int64(6000) {
		rnd := rand.New(rand.NewSource(seed))
		p, in := anyProgram(rnd, 14), anyIn(rnd)
		v, done, err := run(t, p, in, 300)
		if err == api.OK {
			results++
		}
		faults[err]++
		for steps := range min(done+3, 40) {
			w, k, e := run(t, p, in, steps)
			if steps < done && (w != none || k != steps || e != api.ErrSteps) {
				t.Errorf("%s in %d of %d steps: %+v, %d, %d", show(p), steps, done, w, k, e)
			}
			if steps > done && (w != v || k != done || e != err) {
				t.Errorf("%s in %d steps, of which it wants %d: %+v, %d, %d", show(p), steps, done, w, k, e)
			}
		}
		if t.Failed() {
			t.Fatal("seed", seed)
		}
	}
	if results < 500 || len(faults) < 6 {
		t.Error(results, faults)
	}
}

// P19.6: two programs joined, and an operation behind them.
func TestComposition(t *testing.T) {
	two := []string{"add", "sub", "mul", "div", "mod", "min", "max", "eq", "lt", "and", "or", "cat", "has", "field", "else"}
	joined := 0
	for seed := int64(0); joined < 1500; seed++ {
		rnd := rand.New(rand.NewSource(seed))
		p, q, in := anyProgram(rnd, 8), anyProgram(rnd, 8), anyIn(rnd)
		a, k, err := run(t, p, in, 500)
		b, l, e := run(t, q, in, 500)
		if err != api.OK || e != api.OK {
			continue
		}
		joined++
		o := do(two[rnd.Intn(len(two))])
		want, _, wrong := run(t, over(o, a, b), in, 3)
		got, done, fault := run(t, expr.Join(p, q, []expr.Op{o}), in, 1001)
		if wrong == api.OK {
			done--
		}
		if got != want || done != k+l || fault != wrong {
			t.Fatalf("seed %d: %s; %s; %s: %+v, %d, %d, not %+v, %d, %d", seed, show(p), show(q), show([]expr.Op{o}), got, done, fault, want, k+l, wrong)
		}
	}
}

// Rules 5 and 6: a result hangs on the arguments alone, and is no part of them.
func TestRunAgain(t *testing.T) {
	p, in := prog("value dup cat 'x swap cat"), expr.In{Value: s("ab")}
	first, _, _ := expr.Run(p, in, 9)
	p[2].Code = code("has")
	if v, _, _ := expr.Run(prog("value dup cat 'x swap cat"), in, 9); v != first || v != s("xabab") {
		t.Error(first, v)
	}
	if fmt.Sprint(first) != fmt.Sprint(s("xabab")) {
		t.Error(first)
	}
}
