package expr

import "towpath/api"

// Run executes a program, and returns its result and how many steps were executed.
func Run(p []Op, in In, steps int) (Val, int, api.Errno) {
	if err := Check(p...); err != api.OK {
		return Val{}, 0, err
	}
	if steps < 0 || steps > mostSteps || !in.valid() {
		return Val{}, 0, api.ErrArg
	}
	m := machine{in: in}
	done := 0
	for ; m.next < len(p); done++ {
		if done == steps {
			return Val{}, done, api.ErrSteps
		}
		if err := m.step(p[m.next]); err != api.OK {
			return Val{}, done, err
		}
	}
	if len(m.stack) != 1 {
		return Val{}, done, api.ErrStack
	}
	return m.stack[0], done, api.OK
}

// machine is a program that is being executed.
type machine struct {
	in    In
	stack []Val
	next  int
}

// step executes one operation. With an error the program ends, so the machine may be left as it is.
func (m *machine) step(o Op) api.Errno {
	takes := operations[o.Code].takes
	below := len(m.stack) - len(takes)
	if below < 0 {
		return api.ErrStack
	}
	operands := m.stack[below:]
	for i, v := range operands {
		if !accepts(takes[i], v) {
			return api.ErrKind
		}
	}
	// What is below the operands ends there, so that no result comes to lie over one of them.
	stack, err := m.push(m.stack[:below:below], o, operands)
	if err != api.OK {
		return err
	}
	if len(stack) > mostStack {
		return api.ErrStack
	}
	m.stack = stack
	m.next++
	if o.Code == doJump || o.Code == doWhen && operands[0].holds() {
		m.next = int(o.N)
	}
	return api.OK
}

// push puts the results of an operation on the stack that is left below its operands.
func (m *machine) push(stack []Val, o Op, operands []Val) ([]Val, api.Errno) {
	switch o.Code {
	case doJump, doWhen, doDrop:
		return stack, api.OK
	case doDup:
		return append(stack, operands[0], operands[0]), api.OK
	case doSwap:
		return append(stack, operands[1], operands[0]), api.OK
	}
	v, err := m.result(o, operands)
	return append(stack, v), err
}

// result returns what an operation with one result comes to.
func (m *machine) result(o Op, operands []Val) (Val, api.Errno) {
	switch o.Code {
	case doNumber, doText, doNone, doKey, doValue, doTime, doNow, doOld, doSide:
		return m.given(o), api.OK
	case doAdd, doSub, doMul, doDiv, doMod, doMin, doMax, doNeg:
		return computed(o.Code, operands...)
	case doEq, doLt, doAnd, doOr, doNot, doHas, doIs:
		return compared(o.Code, operands...)
	case doCat, doPart, doField, doLen:
		return ofTexts(o.Code, operands...)
	}
	return chosen(o.Code, operands...), api.OK
}

// given returns what needs no operand: what the operation has itself, or what the program is executed over.
func (m *machine) given(o Op) Val {
	switch o.Code {
	case doNumber:
		return number(o.N)
	case doText:
		return text(o.S)
	case doKey:
		return text(m.in.Key)
	case doValue:
		return m.in.Value
	case doTime:
		return number(m.in.Time)
	case doNow:
		return number(m.in.Now)
	case doOld:
		return m.in.Old
	case doSide:
		return m.in.Side
	}
	return Val{}
}
