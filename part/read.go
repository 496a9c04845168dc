package part

import (
	"slices"

	"towpath/api"
	"towpath/rec"
)

// Read returns the records of at most so many batches, from an offset on, and the offset behind these. As committed it returns those that stand, and goes no farther than that is known.
func (p *Part) Read(offset int64, most int, committed bool) ([]rec.At, int64, api.Errno) {
	if p == nil {
		return nil, 0, api.ErrNil
	}
	bs, err := p.Log.Read(offset, most)
	if err != api.OK {
		return nil, 0, err
	}
	if committed {
		bs = below(p.Stable(), bs)
	}
	next := offset
	if len(bs) > 0 {
		next = rec.Next(bs[len(bs)-1])
	}
	if committed {
		return p.view.Pick(bs...), next, api.OK
	}
	return rec.Flat(bs...), next, api.OK
}

// below returns the batches, which are in order, that begin below an offset.
func below(offset int64, bs []api.Batch) []api.Batch {
	beyond := func(b api.Batch) bool { return b.Base >= offset }
	if i := slices.IndexFunc(bs, beyond); i >= 0 {
		return bs[:i]
	}
	return bs
}

// First returns the offset from which on the log holds batches. It is the log's own, but for a nil partition, which has none to ask.
func (p *Part) First() int64 {
	if p == nil {
		return 0
	}
	return p.Log.First()
}

// Next returns the offset that the next batch gets, as First does.
func (p *Part) Next() int64 {
	if p == nil {
		return 0
	}
	return p.Log.Next()
}

// Stable returns the offset below which no transaction is open. Without an open one that is the log's end, even where the view has seen no batch up to there, as behind batches that were compacted away.
func (p *Part) Stable() int64 {
	switch {
	case p == nil:
		return 0
	case len(p.view.Open()) == 0:
		return p.Next()
	}
	return max(p.view.Stable(), p.First())
}

// Batches returns all batches.
func (p *Part) Batches() []api.Batch {
	if p == nil {
		return nil
	}
	return p.All()
}
