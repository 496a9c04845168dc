package expr

// The codes of operations.
const (
	_ = iota
	doNumber
	doText
	doNone
	doKey
	doValue
	doTime
	doNow
	doOld
	doSide
	doAdd
	doSub
	doMul
	doDiv
	doMod
	doMin
	doMax
	doNeg
	doEq
	doLt
	doAnd
	doOr
	doNot
	doCat
	doLen
	doPart
	doHas
	doNum
	doShow
	doField
	doElse
	doIs
	doPick
	doDup
	doSwap
	doDrop
	doJump
	doWhen
)

// What an operand may be, as a letter.
const (
	anything = 'a'
	aNumber  = 'n'
	aText    = 't'
	either   = 'e' // a number or a text
)

// The operations by their codes: the word, if there is one, and what is taken, a letter for each operand, the top of the stack last.
var operations = [...]struct{ word, takes string }{
	doNone:  {"none", ""},
	doKey:   {"key", ""},
	doValue: {"value", ""},
	doTime:  {"time", ""},
	doNow:   {"now", ""},
	doOld:   {"old", ""},
	doSide:  {"side", ""},
	doAdd:   {"add", "nn"},
	doSub:   {"sub", "nn"},
	doMul:   {"mul", "nn"},
	doDiv:   {"div", "nn"},
	doMod:   {"mod", "nn"},
	doMin:   {"min", "nn"},
	doMax:   {"max", "nn"},
	doNeg:   {"neg", "n"},
	doEq:    {"eq", "aa"},
	doLt:    {"lt", "ee"},
	doAnd:   {"and", "nn"},
	doOr:    {"or", "nn"},
	doNot:   {"not", "n"},
	doCat:   {"cat", "tt"},
	doLen:   {"len", "t"},
	doPart:  {"part", "tnn"},
	doHas:   {"has", "tt"},
	doNum:   {"num", "a"},
	doShow:  {"text", "a"},
	doField: {"field", "tn"},
	doElse:  {"else", "aa"},
	doIs:    {"is", "a"},
	doPick:  {"pick", "aan"},
	doDup:   {"dup", "a"},
	doSwap:  {"swap", "aa"},
	doDrop:  {"drop", "a"},
	doJump:  {"jump", ""},
	doWhen:  {"when", "n"},
}

// accepts reports whether what a letter stands for may be v.
func accepts(letter byte, v Val) bool {
	switch letter {
	case aNumber:
		return v.Kind == Num
	case aText:
		return v.Kind == Text
	case either:
		return v.Kind != None
	}
	return letter == anything
}

// known reports whether there is such a code.
func known(code int) bool { return doNumber <= code && code <= doWhen }

// jumps reports whether the N of an operation is the number of another one.
func (o Op) jumps() bool { return o.Code == doJump || o.Code == doWhen }

// Word returns the word of a code, or "" if it has none.
func Word(code int) string {
	if !known(code) {
		return ""
	}
	return operations[code].word
}

// Code returns the code of a word, or 0 if it is none.
func Code(word string) int {
	for code := doNone; code <= doWhen; code++ {
		if operations[code].word == word {
			return code
		}
	}
	return 0
}
