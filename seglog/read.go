package seglog

import (
	"iter"
	"slices"
	"sort"

	"towpath/api"
	"towpath/rec"
)

// from goes through what the batches have from an offset on. It gives out copies.
func (l *Log) from(offset int64) iter.Seq[api.Batch] {
	return func(yield func(api.Batch) bool) {
		for _, s := range l.segments {
			for _, b := range s.from(offset) {
				part, _ := rec.From(b, offset)
				if !yield(part) {
					return
				}
			}
		}
	}
}

// from returns the batches that have anything from an offset on, as they are kept.
func (s *segment) from(offset int64) []api.Batch {
	i := sort.Search(len(s.batches), func(i int) bool {
		b := s.batches[i]
		return b.Base+int64(rec.Span(b)) > offset
	})
	return s.batches[i:]
}

// Read returns at most so many batches, from an offset on.
func (l *Log) Read(offset int64, most int) ([]api.Batch, api.Errno) {
	switch {
	case l == nil:
		return nil, api.ErrNil
	case most < 1:
		return nil, api.ErrArg
	case offset < l.First() || offset > l.Next():
		return nil, api.ErrRange
	}
	var all []api.Batch
	for b := range l.from(offset) {
		all = append(all, b)
		if len(all) == most {
			break
		}
	}
	return all, api.OK
}

// All returns all batches.
func (l *Log) All() []api.Batch {
	if l == nil {
		return nil
	}
	return slices.Collect(l.from(l.First()))
}

// After returns an offset from which on to look for a time, in the first segment that reaches it.
func (l *Log) After(time int64) (int64, bool) {
	if l == nil || time < 0 {
		return 0, false
	}
	for _, s := range l.segments {
		if s.latest >= time {
			e, ok := s.After(time)
			return e.Offset, ok
		}
	}
	return 0, false
}
