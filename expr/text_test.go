package expr_test

import (
	"fmt"
	"math/rand"
	"regexp"
	"slices"
	"strconv"
	"strings"
	"testing"

	"towpath/api"
	"towpath/expr"
)

// shown: a value is told so.
func shown(t *testing.T, v expr.Val, want string) {
	t.Helper()
	if got := expr.Show(v); got != want {
		t.Errorf("Show(%+v): %q, not %q", v, got, want)
	}
}

// printed: operations have this text.
func printed(t *testing.T, want string, p ...expr.Op) {
	t.Helper()
	q := append(slices.Clone(p), make([]expr.Op, 4)...)
	before := slices.Clone(q)
	if got := expr.Print(q[:len(p)]...); got != want {
		t.Errorf("Print(%s): %q, not %q", show(p), got, want)
	}
	if !slices.Equal(q, before) {
		t.Errorf("Print(%s) changes its argument", show(p))
	}
}

// parses: a text is that of this program, which has a memory of its own.
func parses(t *testing.T, text string, want ...expr.Op) {
	t.Helper()
	p, at, err := expr.Parse(text)
	if !slices.Equal(p, want) || at != 0 || err != api.OK {
		t.Errorf("Parse(%.200q): %s, %d, %d, not %s", text, show(p), at, err, show(want))
	}
	for i := range p {
		p[i] = expr.Op{}
	}
	_ = append(p, expr.Op{Code: 99})
	if p, _, _ := expr.Parse(text); !slices.Equal(p, want) {
		t.Errorf("Parse(%.200q) again: %s", text, show(p))
	}
}

// unparsed: a text is none.
func unparsed(t *testing.T, text string, at int, want api.Errno) {
	t.Helper()
	if p, k, err := expr.Parse(text); len(p) != 0 || k != at || err != want {
		t.Errorf("Parse(%.200q): %s, %d, %d, not %d, %d", text, show(p), k, err, at, want)
	}
}

// quote is the chapter's quoting.
func quote(s string) string {
	q := `"`
	for i := 0; i < len(s); i++ {
		switch {
		case s[i] == '"', s[i] == '\\':
			q += `\` + s[i:i+1]
		case s[i] < 32, s[i] > 126:
			q += fmt.Sprintf(`\x%02x`, s[i])
		default:
			q += s[i : i+1]
		}
	}
	return q + `"`
}

// P19.2, P19.3: each byte, quoted.
func TestBytes(t *testing.T) {
	for i := range 256 {
		c := string([]byte{byte(i)})
		for _, bare := range []string{c, "a" + c, c + "a", c + c, `\` + c, c + `\`, `x` + c + `x41`} {
			q := quote(bare)
			shown(t, s(bare), q)
			printed(t, q, give(s(bare)))
			parses(t, q, give(s(bare)))
			parses(t, " 1   "+q+" add ", give(n(1)), give(s(bare)), do("add"))
		}
		must := i < 32 || i > 126 || c == `"` || c == `\`
		if must && c != `"` {
			unparsed(t, `7 "`+c+`"`, 2, api.ErrForm)
			unparsed(t, `7 "a`+c+`b"`, 2, api.ErrForm)
		}
		if hex := fmt.Sprintf(`\x%02x`, i); i >= 32 && i <= 126 {
			unparsed(t, `7 "`+hex+`"`, 2, api.ErrForm) // it need not be escaped, or otherwise
			unparsed(t, `7 "a`+hex+`b"`, 2, api.ErrForm)
		} else if hex != strings.ToLower(strings.ToUpper(hex)) || strings.ContainsAny(hex[2:], "abcdef") {
			unparsed(t, `7 "\x`+strings.ToUpper(hex[2:])+`"`, 2, api.ErrForm)
		}
		if c != `"` && c != `\` {
			unparsed(t, `7 "\`+c+`"`, 2, api.ErrForm)
			unparsed(t, `7 "a\`+c+`b"`, 2, api.ErrForm)
		}
	}
	shown(t, s(""), `""`)
	parses(t, `""`, give(s("")))
	parses(t, `"\x0a"`, give(s("\n")))
	parses(t, `" a  b "`, give(s(" a  b ")))
	parses(t, `"\\x0a"`, give(s(`\x0a`)))
	long := strings.Repeat("\xff", 1024)
	parses(t, quote(long), give(s(long)))
	unparsed(t, quote(long+"a"), 0, api.ErrTable)
	unparsed(t, quote(strings.Repeat("a", 5000)), 0, api.ErrTable)
}

// P19.2: values as they are told.
func TestShow(t *testing.T) {
	shown(t, none, "none")
	shown(t, n(0), "0")
	shown(t, n(-17), "-17")
	shown(t, n(greatest), "9223372036854775807")
	shown(t, n(least), "-9223372036854775808")
	shown(t, s("none"), `"none"`)
	shown(t, s("7"), `"7"`)
	shown(t, s(strings.Repeat("\x00", 1024)), `"`+strings.Repeat(`\x00`, 1024)+`"`)
}

// P19.3: each operation, printed and parsed.
func TestPrintAndParse(t *testing.T) {
	printed(t, "")
	for _, w := range words {
		if w == "jump" || w == "when" {
			for k := range 3 {
				printed(t, fmt.Sprint(w, ":", k), to(w, k))
				parses(t, fmt.Sprint("1 ", w, ":", k), give(n(1)), to(w, k))
			}
			unparsed(t, w, 0, api.ErrForm)
			unparsed(t, w+":", 0, api.ErrForm)
			unparsed(t, w+":2", 0, api.ErrTable)
			unparsed(t, w+":-1", 0, api.ErrTable)
			continue
		}
		printed(t, w, do(w))
		parses(t, w, do(w))
		unparsed(t, w+":0", 0, api.ErrForm)
		unparsed(t, w+":", 0, api.ErrForm)
	}
	for _, c := range numbers {
		if c.ok {
			printed(t, c.s, give(n(c.n)))
			parses(t, c.s, give(n(c.n)))
		}
	}
	printed(t, "value num 1 add", prog("value num 1 add")...)
	parses(t, "value num 1 add", prog("value num 1 add")...)
	printed(t, `1 "a b" when:0 -5`, expr.Op{Code: 1, N: 1}, expr.Op{Code: 2, S: "a b"}, to("when", 0), expr.Op{Code: 1, N: -5})
	parses(t, "1 when:0", prog("1 when:0")...)
	parses(t, "1 when:2", prog("1 when:2")...)
}

// P19.3: what is no program has a text, too.
func TestPrintAnything(t *testing.T) {
	for _, c := range []int{0, 38, 39, -1, 256, 1 << 32, least, greatest} {
		printed(t, "?", expr.Op{Code: c})
		printed(t, "? key ?", expr.Op{Code: c, N: 5, S: "a"}, do("key"), expr.Op{Code: c})
	}
	printed(t, "jump:-1 when:99", to("jump", -1), to("when", 99))
	printed(t, "jump:-9223372036854775808", expr.Op{Code: 36, N: least})
	printed(t, strings.Repeat("1 ", 199)+"1", slices.Repeat(prog("1"), 200)...)
	printed(t, quote(strings.Repeat("a", 3000)), expr.Op{Code: 2, S: strings.Repeat("a", 3000)})
}

// P19.3: spaces between operations, ahead of them and behind.
func TestSpaces(t *testing.T) {
	one := prog("1 neg")
	for _, text := range []string{"1 neg", " 1 neg", "1 neg ", "1  neg", "   1    neg   ", "1 neg" + strings.Repeat(" ", 5000), strings.Repeat(" ", 5000) + "1 neg"} {
		parses(t, text, one...)
	}
	for _, text := range []string{"", " ", "     ", strings.Repeat(" ", 3000)} {
		unparsed(t, text, 0, api.ErrTable)
	}
	for i := range 256 {
		if c := string([]byte{byte(i)}); !strings.Contains(" 0123456789", c) {
			unparsed(t, "7 1"+c+"neg", 2, api.ErrForm)
			unparsed(t, "7 neg"+c, 2, api.ErrForm)
			unparsed(t, "7 neg"+c+"1", 2, api.ErrForm)
			if c != "-" {
				unparsed(t, "7 "+c+"1 neg", 2, api.ErrForm)
			}
			unparsed(t, "7 "+c+" neg", 2, api.ErrForm)
		}
	}
}

// P19.3: what is no operation, and how many bytes are ahead of it.
func TestFaultyTexts(t *testing.T) {
	for _, bad := range []string{
		"x", "?", "Add", "ADD", "adds", "ad", "add,", "(add)", "add;", ":", "::", ":0", "add:", "add:0", "none:1", "1:0", "1:", ":1",
		"jump", "when", "jump:", "when:", "jump:x", "jump:01", "jump:+1", "jump:-0", "jump:--1", "jump::1", "jump:1:", "jump:1:1", "Jump:1", "jump:0x1", "jump:9223372036854775808", `jump:"1"`, "when:1,", "jumps:1", "jump1", "jump;1",
		`"`, `"a`, `a"`, `"a"b`, `"a"1`, `1"a"`, `1"a b"`, `"a""b"`, `""""`, `"a"" "`, `add"a"`, `"a"add`, `"\"`, `"\`, `"a\"`, `"\\\"`, `"\x"`, `"\x`, `"\x0"`, `"\x0`, `"\x0`, `"\x00`, `"\xg0"`, `"\x0g"`, `"\X00"`, `"\x-1"`, `"\x+1"`, `"\x_1"`, `"\x 1"`, `"\x0A"`, `"\xFF"`, `"\xfF"`, `"\xFf"`, `"\x41"`, `"\x20"`, `"\x22"`, `"\x5c"`, `"\x7e"`, `"\n"`, `"\t"`, `"\0"`, `"\a"`, `"\ "`, `"\'"`, `'a'`, `"a'`, "\"\t\"", "\"\n\"", "\"\x00\"", "\"\x7f\"", "\"\u00e9\"", "\"\xff\"", `"\x0a\x0A"`, "`a`",
		"\t", "\n", "1\t", "1\t2", "1\n2", "\u00a0", "1\u00a0", "+1", "-", "--1", "1-1", "1.5", "0x10", "01", "-0", "00", "1_0", "9223372036854775808", "-9223372036854775809",
	} {
		unparsed(t, bad, 0, api.ErrForm)
		unparsed(t, "  "+bad, 2, api.ErrForm)
		unparsed(t, `1 "a b"  `+bad, 9, api.ErrForm)
		unparsed(t, "1 neg "+bad, 6, api.ErrForm)
		unparsed(t, bad+" x", 0, api.ErrForm)
		unparsed(t, "key  x "+bad, 5, api.ErrForm) // the first one is told
		unparsed(t, "jump:9 "+bad, 7, api.ErrForm) // ahead of a program that is none
		unparsed(t, strings.Repeat("1 ", 64)+bad, 128, api.ErrForm)
		unparsed(t, strings.Repeat("1 ", 65)+bad, 130, api.ErrForm)
		unparsed(t, strings.Repeat("1 ", 66)+bad, 132, api.ErrForm)
		unparsed(t, strings.Repeat("1 ", 500)+bad, 1000, api.ErrForm)
	}
}

// P19.3: operations that are no program.
func TestFaultyPrograms(t *testing.T) {
	for k := 1; k <= 130; k++ {
		text := strings.TrimSuffix(strings.Repeat("1 ", k), " ")
		if k <= 64 {
			parses(t, text, slices.Repeat(prog("1"), k)...)
			parses(t, text[1:]+" jump:"+strconv.Itoa(k), append(slices.Repeat(prog("1"), k-1), to("jump", k))...)
			unparsed(t, text[1:]+" jump:"+strconv.Itoa(k+1), 0, api.ErrTable)
			unparsed(t, text[1:]+" when:-1", 0, api.ErrTable)
			continue
		}
		unparsed(t, text, 0, api.ErrTable)
		unparsed(t, text[1:]+" jump:64", 0, api.ErrTable)
		unparsed(t, "jump:65 "+text[1:], 0, api.ErrTable)
	}
	unparsed(t, strings.Repeat(`"a" `, 20000), 0, api.ErrTable)
	unparsed(t, "jump:9223372036854775807", 0, api.ErrTable)
	unparsed(t, "1 2 "+quote(strings.Repeat("a", 1025)), 0, api.ErrTable)
}

// form is an operation as the chapter has it written, with what may follow it.
var form = regexp.MustCompile(`^(?:(-?[1-9][0-9]*|0)|("(?:[ !#-\[\]-~]|\\["\\]|\\x(?:[01][0-9a-f]|7f|[89a-f][0-9a-f]))*")|([a-z]+)|(jump|when):(-?[1-9][0-9]*|0))(?: |$)`)

// parse is a model of Parse.
func parse(text string) ([]expr.Op, int, api.Errno) {
	var p []expr.Op
	for at := 0; at < len(text); {
		if text[at] == ' ' {
			at++
			continue
		}
		m := form.FindStringSubmatch(text[at:])
		if m == nil {
			return nil, at, api.ErrForm
		}
		o := expr.Op{}
		var err error
		switch {
		case m[1] != "":
			o.Code = 1
			o.N, err = strconv.ParseInt(m[1], 10, 64)
		case m[2] != "":
			o.Code = 2
			o.S, err = strconv.Unquote(m[2])
		case m[3] != "":
			o.Code = code(m[3])
			if o.Code < 3 || o.Code > 35 {
				return nil, at, api.ErrForm
			}
		default:
			o.Code = code(m[4])
			o.N, err = strconv.ParseInt(m[5], 10, 64)
		}
		if err != nil {
			return nil, at, api.ErrForm
		}
		p = append(p, o)
		at += len(strings.TrimSuffix(m[0], " "))
	}
	if !sound(p) {
		return nil, 0, api.ErrTable
	}
	return p, 0, api.OK
}

// P19.7: what is printed is parsed to the same program, and whatever is parsed equally is printed the same.
func TestRoundTrip(t *testing.T) {
	for seed := range int64(2000) {
		rnd := rand.New(rand.NewSource(seed))
		p := anyProgram(rnd, 64)
		text := expr.Print(p...)
		parses(t, text, p...)
		wide := strings.Repeat(" ", rnd.Intn(3))
		for _, o := range p {
			wide += expr.Print(o) + strings.Repeat(" ", 1+rnd.Intn(3))
		}
		parses(t, wide, p...)
		if q, _, _ := expr.Parse(wide); expr.Print(q...) != text {
			t.Errorf("Print of Parse of %q: %q", wide, expr.Print(q...))
		}
		if t.Failed() {
			t.Fatal("seed", seed)
		}
	}
}

// P19.3: texts that are spoilt by chance, beside the model.
func TestParseByChance(t *testing.T) {
	marks := []string{" ", " ", "\"", "\\", "x", "0", "a", "f", "F", "7", "-", ":", "\n", "\xff", "jump", "when:", "neg", ""}
	tally := map[api.Errno]int{}
	for seed := range int64(25000) {
		rnd := rand.New(rand.NewSource(seed))
		var p []expr.Op
		for range 1 + rnd.Intn(4) {
			p = append(p, anyProgram(rnd, 4)[0])
		}
		if rnd.Intn(2) == 0 {
			c := []byte{byte(rnd.Intn(256)), byte(rnd.Intn(256)), byte(rnd.Intn(256))}
			p = append(p, give(s(string(c[:rnd.Intn(4)]))))
		}
		text := expr.Print(p...)
		if len(text) > 200 {
			text = text[len(text)-200:]
		}
		for range rnd.Intn(4) {
			i := rnd.Intn(len(text) + 1)
			j := min(i+rnd.Intn(3), len(text))
			text = text[:i] + marks[rnd.Intn(len(marks))] + text[j:]
		}
		want, at, err := parse(text)
		tally[err]++
		if err == api.OK {
			parses(t, text, want...)
		} else {
			unparsed(t, text, at, err)
		}
		if t.Failed() {
			t.Fatal("seed", seed)
		}
	}
	if tally[api.OK] < 5000 || tally[api.ErrForm] < 5000 || tally[api.ErrTable] < 30 {
		t.Error(tally)
	}
}
