package expr

import (
	"strconv"
	"strings"

	"towpath/api"
)

// Parse returns the program whose text is s, or how many bytes are ahead of the first thing there that is no operation.
func Parse(s string) ([]Op, int, api.Errno) {
	var p []Op
	for at := 0; at < len(s); {
		if s[at] == ' ' {
			at++
			continue
		}
		n := length(s[at:])
		o, ok := parsed(s[at : at+n])
		if !ok {
			return nil, at, api.ErrForm
		}
		if len(p) <= mostOps { // one too many is enough to tell
			p = append(p, o)
		}
		at += n
	}
	if err := Check(p...); err != api.OK {
		return nil, 0, err
	}
	return p, 0, api.OK
}

// length returns how many bytes there are up to the first space that is not within quotes.
func length(s string) int {
	within := false
	for i := 0; i < len(s); i++ {
		switch {
		case s[i] == ' ' && !within:
			return i
		case s[i] == '"':
			within = !within
		case s[i] == '\\' && within:
			i++ // it may be a quote that ends nothing
		}
	}
	return len(s)
}

// parsed returns the operation whose text is s.
func parsed(s string) (Op, bool) {
	if s[0] == '"' {
		bare := unquoted(s)
		return Op{Code: doText, S: bare}, quoted(bare) == s // so whatever is escaped otherwise than it must be is none
	}
	if n, ok := Number(s); ok {
		return Op{Code: doNumber, N: n}, true
	}
	word, to, jumps := strings.Cut(s, ":")
	o := Op{Code: Code(word)}
	if o.Code == 0 || o.jumps() != jumps {
		return Op{}, false
	}
	if !jumps {
		return o, true
	}
	n, ok := Number(to)
	o.N = n
	return o, ok
}

// unquoted returns the string of which s is the text, if it is one.
func unquoted(s string) string {
	s = strings.TrimSuffix(s[1:], `"`)
	var b []byte
	for i := 0; i < len(s); i++ {
		c := s[i]
		if c == '\\' && i+1 < len(s) {
			i++
			c = s[i]
			if c == 'x' && i+2 < len(s) {
				n, _ := strconv.ParseUint(s[i+1:i+3], 16, 8)
				i += 2
				c = byte(n)
			}
		}
		b = append(b, c)
	}
	return string(b)
}
