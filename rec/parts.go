package rec

import (
	"slices"

	"towpath/api"
)

// part returns the batch of the records of b from the index i up to the index end. It leaves b and its records alone.
func part(b api.Batch, i, end int) api.Batch {
	b.L = slices.Clone(b.L[i:end])
	b.Base += int64(i)
	if b.Pid != 0 {
		b.Seq += i
	}
	return b
}

// Split divides b into parts of n records.
func Split(b api.Batch, n int) []api.Batch {
	if Valid(b) != api.OK || n < 1 {
		return nil
	}
	if marker(b) {
		return []api.Batch{Copy(b)}
	}
	var l []api.Batch
	for i := 0; i < len(b.L); i += n {
		l = append(l, part(b, i, min(i+n, len(b.L))))
	}
	return l
}

// Merge returns the batch of which the batches l are the parts.
func Merge(l ...api.Batch) (api.Batch, api.Errno) {
	if len(l) == 0 {
		return api.Batch{}, api.ErrNone
	}
	for _, b := range l {
		if err := Valid(b); err != api.OK {
			return api.Batch{}, err
		}
	}
	all := Copy(l[0])
	for i, b := range l[1:] {
		if !follows(l[i], b) {
			return api.Batch{}, api.ErrArg
		}
		all.L = append(all.L, b.L...)
	}
	if len(all.L) > api.MaxRecords {
		return api.Batch{}, api.ErrLong
	}
	return all, api.OK
}

// follows reports whether a valid b stands to a valid a as a part of a batch stands to the part ahead of it.
func follows(a, b api.Batch) bool {
	if marker(a) || !sameOwner(a, b) || b.Base != Next(a) {
		return false
	}
	return a.Pid == 0 || b.Seq == a.Seq+len(a.L)
}

// Flat returns the records of all batches, each with its offset.
func Flat(l ...api.Batch) []At {
	var all []At
	for _, b := range l {
		if marker(b) {
			continue // even one that is not valid, and has records
		}
		for i, r := range b.L {
			all = append(all, At{Offset: b.Base + int64(i), Record: r})
		}
	}
	return all
}

// From returns what b has from an offset on, if it has anything there.
func From(b api.Batch, offset int64) (api.Batch, bool) {
	if Valid(b) != api.OK || offset >= Next(b) {
		return api.Batch{}, false
	}
	if offset <= b.Base {
		return Copy(b), true
	}
	return part(b, int(offset-b.Base), len(b.L)), true
}
