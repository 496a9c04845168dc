package txn

import (
	"slices"
	"strings"

	"towpath/api"
	"towpath/wire"
)

// letter is what the key of a row's record begins with.
const letter = "t"

func isId(id string) bool { return between(1, api.MaxName, len(id)) }

func (s stored) key() string { return letter + s.Id }

func (s stored) value() string {
	b := wire.Join(
		numbers(s.Pid, int64(s.Epoch), s.Who, int64(s.State), s.Since, s.Limit, int64(s.Fate)),
		wire.Flag(s.owner),
		wire.Flag(s.fence),
		numbers(len(s.Parts)),
		numbers(s.Parts...),
	)
	return string(b)
}

// numbers encodes numbers, none of which is below 0.
func numbers[N int | int64](l ...N) []byte {
	var b []byte
	for _, n := range l {
		b = append(b, wire.Uint(uint64(n))...)
	}
	return b
}

// parse returns the row of a record, if it has the form of one. A number that is too great for its field comes out below 0, as no valid one is.
func parse(key, value string) (stored, bool) {
	id, ok := strings.CutPrefix(key, letter)
	if !ok {
		return stored{}, false
	}
	r := wire.NewReader([]byte(value))
	s := stored{Row: Row{Id: id}}
	s.Pid, s.Epoch, s.Who, s.State = int64(r.Uint()), int(r.Uint()), int64(r.Uint()), int(r.Uint())
	s.Since, s.Limit, s.Fate = int64(r.Uint()), int64(r.Uint()), int(r.Uint())
	s.owner, s.fence = r.Flag(), r.Flag()
	for range min(r.Uint(), mostParts+1) { // one more than a valid row has
		s.Parts = append(s.Parts, int(r.Uint()))
	}
	return s, r.End() == api.OK
}

// valid reports whether there may be such a row.
func (s stored) valid(c Config) bool {
	return isId(s.Id) &&
		between(1, api.MaxPid, s.Pid) &&
		between(0, c.Epochs, s.Epoch) &&
		isTime(s.Who) && isTime(s.Since) && isTime(s.Limit) &&
		between(Idle, Retired, s.State) &&
		between(unknown, aborted, s.Fate) &&
		s.validParts(c) && s.validFlags()
}

func (s stored) validParts(c Config) bool {
	for i, part := range s.Parts {
		if i > 0 && part <= s.Parts[i-1] {
			return false
		}
	}
	return !slices.ContainsFunc(s.Parts, c.lacks) && (len(s.Parts) == 0) == (s.State == Idle || s.State == Retired)
}

func (s stored) validFlags() bool {
	return (!s.owner || s.State == Aborting) && (!s.fence || s.State == Committing || s.State == Aborting)
}
