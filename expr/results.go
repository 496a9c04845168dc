package expr

import (
	"strconv"
	"strings"

	"towpath/api"
)

// computed returns what arithmetic comes to. The least number divided by -1 wraps around as the language has it.
func computed(code int, operands ...Val) (Val, api.Errno) {
	a := operands[0].N
	if code == doNeg {
		return number(-a), api.OK
	}
	b := operands[1].N
	switch code {
	case doAdd:
		return number(a + b), api.OK
	case doSub:
		return number(a - b), api.OK
	case doMul:
		return number(a * b), api.OK
	case doMin:
		return number(min(a, b)), api.OK
	case doMax:
		return number(max(a, b)), api.OK
	}
	if b == 0 {
		return Val{}, api.ErrZero
	}
	if code == doDiv {
		return number(a / b), api.OK
	}
	return number(a % b), api.OK
}

// compared returns what is true or false.
func compared(code int, operands ...Val) (Val, api.Errno) {
	a, b := operands[0], operands[len(operands)-1]
	switch code {
	case doEq:
		return truth(a == b), api.OK
	case doAnd:
		return truth(a.holds() && b.holds()), api.OK
	case doOr:
		return truth(a.holds() || b.holds()), api.OK
	case doNot:
		return truth(!a.holds()), api.OK
	case doHas:
		return truth(strings.Contains(a.S, b.S)), api.OK
	case doIs:
		return truth(a.Kind != None), api.OK
	}
	if a.Kind != b.Kind {
		return Val{}, api.ErrKind
	}
	return truth(a.N < b.N || a.S < b.S), api.OK // one of the two is equal, as values have either
}

// ofTexts returns what is made of strings.
func ofTexts(code int, operands ...Val) (Val, api.Errno) {
	s := operands[0].S
	switch code {
	case doLen:
		return number(int64(len(s))), api.OK
	case doPart:
		return text(part(s, operands[1].N, operands[2].N)), api.OK
	case doField:
		return field(s, operands[1].N), api.OK
	}
	s += operands[1].S
	if len(s) > api.MaxText {
		return Val{}, api.ErrLong
	}
	return text(s), api.OK
}

func part(s string, from, n int64) string {
	from = max(from, 0)
	if from > int64(len(s)) || n < 1 {
		return ""
	}
	s = s[from:]
	return s[:min(n, int64(len(s)))]
}

func field(s string, n int64) Val {
	l := strings.Split(s, ";")
	if n < 0 || n >= int64(len(l)) {
		return Val{}
	}
	return text(l[n])
}

// chosen returns one of the operands, or what it is as a value of another kind.
func chosen(code int, operands ...Val) Val {
	a := operands[0]
	switch code {
	case doNum:
		return a.number()
	case doShow:
		return a.text()
	case doElse:
		if a.Kind != None {
			return a
		}
	case doPick:
		if operands[2].holds() {
			return a
		}
	}
	return operands[1]
}

func (v Val) number() Val {
	if v.Kind != Text {
		return v
	}
	if n, ok := Number(v.S); ok {
		return number(n)
	}
	return Val{}
}

func (v Val) text() Val {
	if v.Kind == Num {
		return text(strconv.FormatInt(v.N, 10))
	}
	return text(v.S)
}
