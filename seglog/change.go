package seglog

import (
	"slices"

	"towpath/api"
	"towpath/rec"
)

// Append adds batches at the next offset, all of them to one segment, and returns the offset of the first.
func (l *Log) Append(bs ...api.Batch) (int64, api.Errno) {
	switch {
	case l == nil:
		return 0, api.ErrNil
	case len(bs) == 0:
		return 0, api.ErrNone
	}
	first := l.Next()
	next := first
	var all []sealed
	for _, b := range bs {
		b.Base = next
		s, err := seal(b)
		if err != api.OK {
			return 0, err
		}
		all = append(all, s)
		next = rec.Next(b)
	}
	if err := l.write(all); err != api.OK {
		return 0, err
	}
	return first, api.OK
}

// write adds batches to the last segment, or to a new one if they are too great for it.
func (l *Log) write(all []sealed) api.Errno {
	parts, n := frames(all)
	s := l.last()
	if s == nil || !s.takes(n, l.config.Seg) {
		return l.begin(all)
	}
	if err := l.disk.Append(l.name(s.base, kindLog), parts...); err != api.OK {
		return err
	}
	s.addAll(all)
	return api.OK
}

// begin adds a segment with these batches. All others are synced ahead of it: a crash must not take anything from them and leave it, as it would stand behind a hole.
func (l *Log) begin(all []sealed) api.Errno {
	if err := l.Sync(); err != api.OK {
		return err
	}
	s := newSegment(l.Next(), 0, l.config.Gap)
	parts, _ := frames(all)
	parts = slices.Insert(parts, 0, header(s.base, 0))
	if err := l.disk.Append(l.name(s.base, kindLog), parts...); err != api.OK {
		return err
	}
	s.addAll(all)
	l.segments = append(l.segments, s)
	return api.OK
}

// Sync makes all batches durable. Without segments it must not ask the disk, which takes no names for all of its files.
func (l *Log) Sync() api.Errno {
	switch {
	case l == nil:
		return api.ErrNil
	case len(l.segments) == 0:
		return api.OK
	}
	var names []string
	for _, s := range l.segments {
		names = append(names, l.name(s.base, kindLog))
	}
	return l.disk.Sync(names...)
}

// Roll makes all batches durable and begins a segment.
func (l *Log) Roll() api.Errno {
	if l == nil {
		return api.ErrNil
	}
	if s := l.last(); s == nil || len(s.batches) == 0 {
		return api.ErrNone
	}
	return l.begin(nil)
}

// Trim removes segments from the first one on, up to an offset, and returns how many.
func (l *Log) Trim(offset int64) (int, api.Errno) {
	if l == nil {
		return 0, api.ErrNil
	}
	n := 0
	for len(l.segments) > 1 && l.segments[1].base <= offset {
		if err := l.removeFirst(); err != api.OK {
			return n, err
		}
		n++
	}
	return n, api.OK
}

// removeFirst removes the first of several segments. If nothing of its successor were durable, a crash could leave no segment at all, and the log would give out its offsets again from 0 on: it is synced ahead.
func (l *Log) removeFirst() api.Errno {
	successor := l.name(l.segments[1].base, kindLog)
	if l.disk.Kept(successor) == 0 {
		if err := l.disk.Sync(successor); err != api.OK {
			return err
		}
	}
	if err := l.disk.Remove(l.name(l.First(), kindLog)); err != api.OK {
		return err
	}
	l.segments = slices.Delete(l.segments, 0, 1)
	return api.OK
}

// Replace puts one segment with these batches in the place of all that are below an offset. The disk gets it by a rename onto the first of them; a crash behind that leaves others whose offsets it holds, and which Open removes.
func (l *Log) Replace(upto int64, bs ...api.Batch) api.Errno {
	if l == nil {
		return api.ErrNil
	}
	n := slices.IndexFunc(l.segments, func(s *segment) bool { return s.base == upto })
	all, ok := between(l.First(), upto, bs)
	if n < 1 || !ok {
		return api.ErrArg
	}
	s := newSegment(l.First(), upto, l.config.Gap)
	s.addAll(all)
	if err := l.overwrite(s.base, header(s.base, upto), all); err != api.OK {
		return err
	}
	for _, old := range l.segments[1:n] {
		if err := l.disk.Remove(l.name(old.base, kindLog)); err != api.OK {
			return err
		}
	}
	l.segments = slices.Replace(l.segments, 0, n, s)
	return api.OK
}

// between returns the batches as they are, if they are consecutive from first on and end ahead of upto.
func between(first, upto int64, bs []api.Batch) ([]sealed, bool) {
	var all []sealed
	for _, b := range bs {
		s, err := seal(b)
		if err != api.OK || b.Base < first {
			return nil, false
		}
		all = append(all, s)
		first = rec.Next(b)
	}
	return all, first <= upto
}

// overwrite makes the file of a base one of this header and these batches, at once and for good.
func (l *Log) overwrite(base int64, head []byte, all []sealed) api.Errno {
	parts, _ := frames(all)
	fresh := l.name(base, kindNew)
	if err := l.disk.Append(fresh, slices.Insert(parts, 0, head)...); err != api.OK {
		return err
	}
	if err := l.disk.Sync(fresh); err != api.OK {
		return err
	}
	return l.disk.Rename(fresh, l.name(base, kindLog))
}
