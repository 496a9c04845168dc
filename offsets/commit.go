package offsets

import (
	"strconv"
	"strings"

	"towpath/api"
	"towpath/wire"
)

// The greatest numbers of a commit that are no limits of all layers.
const (
	maxPart       = 255
	maxMember     = 64
	maxGeneration = 1<<31 - 1
)

// What the key of a commit's record consists of.
const (
	letter = "o"
	digits = 3
)

// Commit says that a group has come to an offset of a partition, told by a member of a generation.
type Commit struct {
	Part       int
	Offset     int64
	Member     int
	Generation int
}

func from0to(most, n int64) bool { return 0 <= n && n <= most }

func (c Commit) valid() bool {
	return from0to(maxPart, int64(c.Part)) &&
		from0to(api.MaxOffset, c.Offset) &&
		from0to(maxMember, int64(c.Member)) &&
		from0to(maxGeneration, int64(c.Generation))
}

// key returns the key of a valid commit. Its digits have a fixed number, so that the order of keys is that of Parts.
func (c Commit) key() string {
	n := strconv.Itoa(c.Part)
	return letter + strings.Repeat("0", digits-len(n)) + n
}

// Record returns the record that says what a commit says.
func Record(c Commit, time int64) (api.Record, api.Errno) {
	if !c.valid() || !from0to(api.MaxTime, time) {
		return api.Record{}, api.ErrArg
	}
	value := wire.Join(wire.Uint(uint64(c.Offset)), wire.Uint(uint64(c.Member)), wire.Uint(uint64(c.Generation)))
	return api.Record{Key: c.key(), Value: string(value), Time: time}, api.OK
}

// Parse returns the commit whose record r is. What it makes of r need not be right: only if the commit's own record says the same as r, r is one.
func Parse(r api.Record) (Commit, api.Errno) {
	number, _ := strconv.Atoi(strings.TrimPrefix(r.Key, letter))
	value := wire.NewReader([]byte(r.Value))
	c := Commit{Part: number, Offset: int64(value.Uint()), Member: int(value.Uint()), Generation: int(value.Uint())}
	own, err := Record(c, 0)
	r.Time = 0
	if err != api.OK || own != r {
		return Commit{}, api.ErrForm
	}
	return c, api.OK
}
