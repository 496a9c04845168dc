package txn

import "towpath/api"

// Config: how many partitions there are, how many rows there may be, the last epoch.
type Config struct{ Parts, Rows, Epochs int }

// The greatest numbers of a Config that are no limits of all layers.
const (
	mostParts = 256
	mostRows  = 1024
)

func (c Config) valid() bool {
	return between(1, mostParts, c.Parts) && between(1, mostRows, c.Rows) && between(0, api.MaxEpoch, c.Epochs)
}

// lacks reports whether there is no such partition.
func (c Config) lacks(part int) bool { return !between(0, c.Parts-1, part) }

// all returns all partitions.
func (c Config) all() []int {
	l := make([]int, c.Parts)
	for i := range l {
		l[i] = i
	}
	return l
}

func between[N int | int64](least, most, n N) bool { return least <= n && n <= most }

func isTime(n int64) bool { return between(0, api.MaxTime, n) }
