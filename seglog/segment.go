package seglog

import (
	"towpath/api"
	"towpath/frame"
	"towpath/index"
	"towpath/rec"
	"towpath/wire"
)

const headerMark = 83 // the first byte of a header's body

// segment is what a log knows of one of its files. Its index is that of its batches.
type segment struct {
	*index.Index
	base    int64
	next    int64 // the offset behind all that it holds, and all that those held which it replaced
	size    int   // bytes of its file
	latest  int64 // the greatest time of its batches; -1: it has none
	batches []api.Batch
}

// newSegment returns a segment without batches: its file has a header only. The gap is one that Open took.
func newSegment(base, end int64, gap int) *segment {
	x, _ := index.New(gap)
	return &segment{Index: x, base: base, next: max(base, end), size: len(header(base, end)), latest: -1}
}

// sealed is a batch and its frame.
type sealed struct {
	api.Batch
	frame []byte
}

// seal returns a copy of a batch with its frame, or the batch's error.
func seal(b api.Batch) (sealed, api.Errno) {
	raw, err := rec.Encode(b)
	if err != api.OK {
		return sealed{}, err
	}
	return sealed{Batch: rec.Copy(b), frame: frame.Seal(raw)}, api.OK
}

// frames returns what is to be written for batches, and how many bytes that are.
func frames(l []sealed) ([][]byte, int) {
	var all [][]byte
	n := 0
	for _, b := range l {
		all = append(all, b.frame)
		n += len(b.frame)
	}
	return all, n
}

func header(base, end int64) []byte {
	return frame.Seal([]byte{headerMark}, wire.Uint(uint64(base)), wire.Uint(uint64(end)))
}

// endMarker returns the end marker of a header, if the body is that of a header with this base.
func endMarker(body []byte, base int64) (int64, bool) {
	r := wire.NewReader(body)
	mark, start, end := r.Byte(), r.Uint(), r.Uint()
	if r.End() != api.OK || mark != headerMark || start != uint64(base) {
		return 0, false
	}
	if start > api.MaxOffset || end > api.MaxOffset || end != 0 && end <= start {
		return 0, false
	}
	return int64(end), true
}

// load returns the segment with this base that begins the bytes of a file, or nil if none does. Its size tells how many of the bytes it is.
func load(raw []byte, base int64, gap int) *segment {
	body, _, ok := frame.First(raw)
	if !ok {
		return nil
	}
	end, ok := endMarker(body, base)
	if !ok {
		return nil
	}
	s := newSegment(base, end, gap)
	free := base // not the end marker: the batches of a segment that replaced others are below that
	for {
		body, n, ok := frame.First(raw[s.size:])
		if !ok {
			return s
		}
		b, err := rec.Decode(body)
		if err != api.OK || b.Base < free {
			return s
		}
		s.add(b, n)
		free = rec.Next(b)
	}
}

// add takes a batch whose frame of so many bytes stands at the end of the file. The index can't refuse it: offsets and places grow from batch to batch.
func (s *segment) add(b api.Batch, size int) {
	time := latestTime(b)
	s.Note(b.Base, s.size, time)
	s.batches = append(s.batches, b)
	s.next = max(s.next, rec.Next(b))
	s.latest = max(s.latest, time)
	s.size += size
}

func (s *segment) addAll(l []sealed) {
	for _, b := range l {
		s.add(b.Batch, len(b.frame))
	}
}

// takes reports whether so many bytes may be added to a segment that grows up to most. One without batches takes any, as they would fit no other one better.
func (s *segment) takes(n, most int) bool {
	return len(s.batches) == 0 || s.size+n <= most
}

// latestTime returns the greatest time of a valid batch's records; a marker has none, but a time of its own.
func latestTime(b api.Batch) int64 {
	if len(b.L) == 0 {
		return b.Time
	}
	time := b.L[0].Time
	for _, r := range b.L {
		time = max(time, r.Time)
	}
	return time
}
