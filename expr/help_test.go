package expr_test

import (
	"cmp"
	"fmt"
	"math/rand"
	"slices"
	"strconv"
	"strings"
	"testing"

	"towpath/api"
	"towpath/expr"
)

// The calls keep the signatures that the chapter lists.
var (
	_ func(p ...expr.Op) api.Errno                                        = expr.Check
	_ func(p []expr.Op, in expr.In, steps int) (expr.Val, int, api.Errno) = expr.Run
	_ func(ps ...[]expr.Op) []expr.Op                                     = expr.Join
	_ func(string) ([]expr.Op, int, api.Errno)                            = expr.Parse
	_ func(p ...expr.Op) string                                           = expr.Print
	_ func(string) (int64, bool)                                          = expr.Number
	_ func(expr.Val) string                                               = expr.Show
	_ func(code int) string                                               = expr.Word
	_ func(word string) int                                               = expr.Code
	_ [3]int                                                              = [...]int{expr.None: 0, expr.Num: 1, expr.Text: 2}
	_ struct {
		Kind int
		N    int64
		S    string
	} = expr.Val{}
	_ struct {
		Code int
		N    int64
		S    string
	} = expr.Op{}
	_ struct {
		Key       string
		Value     expr.Val
		Time, Now int64
		Old, Side expr.Val
	} = expr.In{}
)

// words are those of the codes from 3 on.
var words = strings.Fields("none key value time now old side add sub mul div mod min max neg eq lt and or not cat len part has num text field else is pick dup swap drop jump when")

// takes says what each word takes: a number (n), a string (s), either (e), or any value (a).
var takes = map[string]string{
	"add": "nn", "sub": "nn", "mul": "nn", "div": "nn", "mod": "nn", "min": "nn", "max": "nn", "neg": "n",
	"eq": "aa", "lt": "ee", "and": "nn", "or": "nn", "not": "n", "cat": "ss", "len": "s", "part": "snn", "has": "ss",
	"num": "a", "text": "a", "field": "sn", "else": "aa", "is": "a", "pick": "aan", "dup": "a", "swap": "aa", "drop": "a", "when": "n",
}

const (
	least    = -1 << 63
	greatest = 1<<63 - 1
)

var none = expr.Val{}

func n(i int64) expr.Val { return expr.Val{Kind: expr.Num, N: i} }

func s(s string) expr.Val { return expr.Val{Kind: expr.Text, S: s} }

func code(word string) int { return slices.Index(words, word) + 3 }

func do(word string) expr.Op { return expr.Op{Code: code(word)} }

func to(word string, n int) expr.Op { return expr.Op{Code: code(word), N: int64(n)} }

// give is the operation that has this value as its result.
func give(v expr.Val) expr.Op {
	if v.Kind == expr.None {
		return do("none")
	}
	return expr.Op{Code: v.Kind, N: v.N, S: v.S}
}

// prog makes a program without Parse: numbers, words, jumps, and strings that begin with a quote and have no spaces.
func prog(text string) []expr.Op {
	var p []expr.Op
	for _, w := range strings.Fields(text) {
		i, err := strconv.ParseInt(w, 10, 64)
		word, n, _ := strings.Cut(w, ":")
		switch {
		case err == nil:
			p = append(p, expr.Op{Code: 1, N: i})
		case w[0] == '\'':
			p = append(p, expr.Op{Code: 2, S: w[1:]})
		case code(word) < 3:
			panic(w)
		default:
			i, _ := strconv.ParseInt(n, 10, 64)
			p = append(p, expr.Op{Code: code(word), N: i})
		}
	}
	return p
}

// over pushes values, and then does one operation.
func over(o expr.Op, vs ...expr.Val) []expr.Op {
	var p []expr.Op
	for _, v := range vs {
		p = append(p, give(v))
	}
	return append(p, o)
}

// run runs a program, and holds the result against the model. Neither the program nor what lies behind it in memory changes.
func run(t *testing.T, p []expr.Op, in expr.In, steps int) (expr.Val, int, api.Errno) {
	t.Helper()
	q := append(slices.Clone(p), make([]expr.Op, 8)...)
	before := slices.Clone(q)
	v, n, err := expr.Run(q[:len(p)], in, steps)
	if !slices.Equal(q, before) {
		t.Errorf("%s: the program is another one", show(p))
	}
	mv, mn, merr := model(p, in, steps)
	if v != mv || n != mn || err != merr {
		t.Errorf("%s in %d steps: %+v, %d, %d, not %+v, %d, %d", show(p), steps, v, n, err, mv, mn, merr)
	}
	return v, n, err
}

func show(p []expr.Op) string {
	var l []string
	for _, o := range p {
		w := fmt.Sprint(o.Code)
		if 3 <= o.Code && o.Code <= 37 {
			w = words[o.Code-3]
		}
		if o.N != 0 || o.S != "" {
			w += fmt.Sprintf("(%d,%.20q)", o.N, o.S)
		}
		l = append(l, w)
	}
	if len(l) > 12 {
		l = append(l[:12], fmt.Sprint("and ", len(l)-12, " more"))
	}
	return strings.Join(l, " ")
}

// gives: a program has this result.
func gives(t *testing.T, p []expr.Op, in expr.In, want expr.Val) {
	t.Helper()
	if v, _, err := run(t, p, in, 4096); v != want || err != api.OK {
		t.Errorf("%s: %+v, %d, not %+v", show(p), v, err, want)
	}
}

// fails: a program ends by this error, after so many steps.
func fails(t *testing.T, p []expr.Op, in expr.In, steps, done int, want api.Errno) {
	t.Helper()
	if v, n, err := run(t, p, in, steps); v != none || n != done || err != want {
		t.Errorf("%s in %d steps: %+v, %d, %d, not %d, %d", show(p), steps, v, n, err, done, want)
	}
}

// sound reports whether a program is valid, by the chapter's words.
func sound(p []expr.Op) bool {
	ok := 1 <= len(p) && len(p) <= 64
	for _, o := range p {
		jump := o.Code == code("jump") || o.Code == code("when")
		ok = ok && 1 <= o.Code && o.Code <= 37 && len(o.S) <= 1024
		ok = ok && (o.S == "" || o.Code == 2)
		ok = ok && (o.N == 0 || o.Code == 1 || jump)
		ok = ok && (!jump || 0 <= o.N && o.N <= int64(len(p)))
	}
	return ok
}

// proper reports whether a value is one.
func proper(v expr.Val) bool {
	return v == none || v == n(v.N) || v == s(v.S) && len(v.S) <= 1024
}

// model executes a program as the chapter says it. Its values are nil, numbers and strings.
func model(p []expr.Op, in expr.In, steps int) (expr.Val, int, api.Errno) {
	if !sound(p) {
		return none, 0, api.ErrTable
	}
	if steps < 0 || steps > 4096 || !proper(in.Value) || !proper(in.Old) || !proper(in.Side) || len(in.Key) > 1024 {
		return none, 0, api.ErrArg
	}
	var stack []any
	at, done := 0, 0
	for {
		if at == len(p) {
			break
		}
		if done == steps {
			return none, done, api.ErrSteps
		}
		o := p[at]
		at++
		want := ""
		if o.Code > 2 {
			want = takes[words[o.Code-3]]
		}
		if len(stack) < len(want) {
			return none, done, api.ErrStack
		}
		below := slices.Clone(stack[:len(stack)-len(want)])
		taken := slices.Clone(stack[len(stack)-len(want):])
		for i, v := range taken {
			if !fit(want[i], v) || i == 1 && want == "ee" && fmt.Sprintf("%T", v) != fmt.Sprintf("%T", taken[0]) {
				return none, done, api.ErrKind
			}
		}
		results, err := effect(o, taken, in)
		if err != api.OK {
			return none, done, err
		}
		if stack = append(below, results...); len(stack) > 32 {
			return none, done, api.ErrStack
		}
		done++
		if o.Code == code("jump") || o.Code == code("when") && taken[0] != int64(0) {
			at = int(o.N)
		}
	}
	if len(stack) != 1 {
		return none, done, api.ErrStack
	}
	return back(stack[0]), done, api.OK
}

func fit(want byte, v any) bool {
	switch v.(type) {
	case int64:
		return want != 's'
	case string:
		return want != 'n'
	}
	return want == 'a'
}

func back(v any) expr.Val {
	switch v := v.(type) {
	case int64:
		return n(v)
	case string:
		return s(v)
	}
	return none
}

func plain(v expr.Val) any {
	switch v.Kind {
	case expr.Num:
		return v.N
	case expr.Text:
		return v.S
	}
	return nil
}

// effect is what an operation pushes, of operands that it accepts.
func effect(o expr.Op, l []any, in expr.In) ([]any, api.Errno) {
	one := func(v any) ([]any, api.Errno) { return []any{v}, api.OK }
	on := func(b bool) ([]any, api.Errno) {
		if b {
			return one(int64(1))
		}
		return one(int64(0))
	}
	var x, y, z int64
	var a, b string
	for i, v := range l {
		switch v := v.(type) {
		case int64:
			*[]*int64{&x, &y, &z}[i] = v
		case string:
			*[]*string{&a, &b, &a}[i] = v
		}
	}
	switch o.Code {
	case 1:
		return one(o.N)
	case 2:
		return one(o.S)
	}
	switch words[o.Code-3] {
	case "none":
		return one(nil)
	case "key":
		return one(in.Key)
	case "value":
		return one(plain(in.Value))
	case "time":
		return one(in.Time)
	case "now":
		return one(in.Now)
	case "old":
		return one(plain(in.Old))
	case "side":
		return one(plain(in.Side))
	case "add":
		return one(x + y)
	case "sub":
		return one(x - y)
	case "mul":
		return one(x * y)
	case "div", "mod":
		q, r, ok := divided(x, y)
		if !ok {
			return nil, api.ErrZero
		}
		if o.Code == code("div") {
			return one(q)
		}
		return one(r)
	case "min":
		return one(slices.Min([]int64{x, y}))
	case "max":
		return one(slices.Max([]int64{x, y}))
	case "neg":
		return one(-x)
	case "eq":
		return on(l[0] == l[1])
	case "lt":
		return on(cmp.Compare(x, y)+strings.Compare(a, b) < 0)
	case "and":
		return on(x != 0 && y != 0)
	case "or":
		return on(x != 0 || y != 0)
	case "not":
		return on(x == 0)
	case "cat":
		if len(a)+len(b) > 1024 {
			return nil, api.ErrLong
		}
		return one(a + b)
	case "len":
		return one(int64(len(a)))
	case "part":
		var l []byte
		for i := 0; i < len(a); i++ {
			if int64(i) >= y && int64(len(l)) < z {
				l = append(l, a[i])
			}
		}
		return one(string(l))
	case "has":
		found := false
		for i := 0; i+len(b) <= len(a); i++ {
			found = found || a[i:i+len(b)] == b
		}
		return on(found)
	case "num":
		if i, err := strconv.ParseInt(a, 10, 64); err == nil && fmt.Sprint(i) == a {
			return one(i)
		}
		if _, ok := l[0].(int64); ok {
			return one(x)
		}
		return one(nil)
	case "text":
		if _, ok := l[0].(int64); ok {
			return one(fmt.Sprint(x))
		}
		return one(a)
	case "field":
		i := int64(0)
		for ; i < y && strings.Contains(a, ";"); i++ {
			a = a[strings.Index(a, ";")+1:]
		}
		if i != y {
			return one(nil)
		}
		return one(strings.SplitN(a, ";", 2)[0])
	case "else":
		if l[0] == nil {
			return one(l[1])
		}
		return one(l[0])
	case "is":
		return on(l[0] != nil)
	case "pick":
		if z == 0 {
			return one(l[1])
		}
		return one(l[0])
	case "dup":
		return []any{l[0], l[0]}, api.OK
	case "swap":
		return []any{l[1], l[0]}, api.OK
	}
	return nil, api.OK
}

// divided divides by the numbers without their signs.
func divided(x, y int64) (q, r int64, ok bool) {
	if y == 0 {
		return 0, 0, false
	}
	size := func(n int64) uint64 {
		if n < 0 {
			return -uint64(n)
		}
		return uint64(n)
	}
	q, r = int64(size(x)/size(y)), int64(size(x)%size(y))
	if (x < 0) != (y < 0) {
		q = -q
	}
	if x < 0 {
		r = -r
	}
	return q, r, true
}

// someValues are of all kinds, the edges of each among them.
func someValues() []expr.Val {
	return []expr.Val{none, n(0), n(1), n(-1), n(2), n(7), n(1024), n(least), n(greatest),
		s(""), s("a"), s("b"), s("ab"), s("0"), s("-7"), s("a;b;;"), s(";"), s("\xff\x00"), s(strings.Repeat("x", 1024))}
}

// anyProgram is valid and mostly runs: it pushes more than it takes, and jumps now and then.
func anyProgram(rnd *rand.Rand, most int) []expr.Op {
	vs := someValues()
	p := make([]expr.Op, 1+rnd.Intn(most))
	depth := 0
	for i := range p {
		p[i] = give(vs[rnd.Intn(len(vs))])
		if w := words[rnd.Intn(len(words))]; rnd.Intn(2) == 0 && (len(takes[w]) <= depth || rnd.Intn(20) == 0) {
			p[i] = do(w)
		}
		if p[i].Code >= 36 {
			p[i].N = int64(i + 1 + rnd.Intn(len(p)-i))
			if rnd.Intn(8) == 0 {
				p[i].N = int64(rnd.Intn(len(p) + 1))
			}
		}
		if p[i].Code > 2 {
			depth -= len(takes[words[p[i].Code-3]])
		}
		depth++
	}
	return p
}

func anyIn(rnd *rand.Rand) expr.In {
	vs := someValues()
	v := func() expr.Val { return vs[rnd.Intn(len(vs))] }
	return expr.In{Key: v().S, Value: v(), Time: v().N, Now: v().N, Old: v(), Side: v()}
}
