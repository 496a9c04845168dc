package expr

import "towpath/api"

// Limits of programs.
const (
	mostOps   = 64
	mostSteps = 4096
	mostStack = 32
)

// Check returns ErrTable if p is no valid program.
func Check(p ...Op) api.Errno {
	if len(p) == 0 || len(p) > mostOps {
		return api.ErrTable
	}
	for _, o := range p {
		if !o.valid(len(p)) {
			return api.ErrTable
		}
	}
	return api.OK
}

// valid reports whether a program of so many operations may have this one.
func (o Op) valid(ops int) bool {
	switch o.Code {
	case doNumber:
		return o.S == ""
	case doText:
		return o.N == 0 && len(o.S) <= api.MaxText
	case doJump, doWhen:
		return o.S == "" && 0 <= o.N && o.N <= int64(ops)
	}
	return known(o.Code) && o.S == "" && o.N == 0
}

// Join puts programs one behind the other. Each goes on to jump within itself, or to the one behind it.
func Join(ps ...[]Op) []Op {
	var joined []Op
	for _, p := range ps {
		ahead := int64(len(joined))
		for _, o := range p {
			if o.jumps() {
				o.N += ahead
			}
			joined = append(joined, o)
		}
	}
	return joined
}
