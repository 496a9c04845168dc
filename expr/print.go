package expr

import (
	"strconv"
	"strings"
)

// Number returns the number whose text is s.
func Number(s string) (int64, bool) {
	n, err := strconv.ParseInt(s, 10, 64)
	if err != nil || strconv.FormatInt(n, 10) != s {
		return 0, false
	}
	return n, true
}

// Show returns how a value is told.
func Show(v Val) string {
	switch v.Kind {
	case Num:
		return strconv.FormatInt(v.N, 10)
	case Text:
		return quoted(v.S)
	}
	return operations[doNone].word
}

// Print returns the text of a program, valid or not.
func Print(p ...Op) string {
	var l []string
	for _, o := range p {
		l = append(l, o.print())
	}
	return strings.Join(l, " ")
}

func (o Op) print() string {
	switch o.Code {
	case doNumber:
		return strconv.FormatInt(o.N, 10)
	case doText:
		return quoted(o.S)
	case doJump, doWhen:
		return Word(o.Code) + ":" + strconv.FormatInt(o.N, 10)
	}
	if !known(o.Code) {
		return "?"
	}
	return Word(o.Code)
}

const digits = "0123456789abcdef"

// quoted returns the only text of a string within quotes.
func quoted(s string) string {
	b := []byte{'"'}
	for _, c := range []byte(s) {
		switch {
		case c == '"' || c == '\\':
			b = append(b, '\\', c)
		case c < ' ' || c > '~':
			b = append(b, '\\', 'x', digits[c>>4], digits[c&15])
		default:
			b = append(b, c)
		}
	}
	return string(append(b, '"'))
}
