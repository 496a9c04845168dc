package seglog

import (
	"math"
	"slices"

	"towpath/api"
	"towpath/disk"
)

// Open returns the log of the files on d, and removes from them what is no part of it.
func Open(d *disk.Disk, prefix string, c Config) (*Log, api.Errno) {
	switch {
	case d == nil:
		return nil, api.ErrNil
	case !Prefix(prefix) || !c.valid():
		return nil, api.ErrArg
	case d.Gone():
		return nil, api.ErrDown
	}
	l := &Log{disk: d, prefix: prefix, config: c}
	if err := l.tidy(l.examine()); err != api.OK {
		return nil, err
	}
	return l, api.OK
}

// examine takes the segments that hold together, and changes no file. It returns the names of the files that have to go, in their order: those that were not finished, those of offsets that others hold, and all segments behind a fault.
func (l *Log) examine() []string {
	var doomed []string
	for name := range l.files(kindNew) {
		doomed = append(doomed, name)
	}
	var fault int64 = math.MaxInt64 // the base from which on no segment may stay
segments:
	for name, base := range l.files(kindLog) {
		raw, _ := l.disk.Read(name)
		s := load(raw, base, l.config.Gap)
		switch {
		case base < l.Next():
			doomed = append(doomed, name)
		case s == nil:
			fault = base
			break segments
		case s.size < len(raw):
			l.segments = append(l.segments, s)
			fault = base + 1
			break segments
		default:
			l.segments = append(l.segments, s)
		}
	}
	for name, base := range l.files(kindLog) {
		if base >= fault {
			doomed = append(doomed, name)
		}
	}
	return doomed
}

// tidy removes files, the last one first, and cuts off what follows the last segment's batches. The fault for which files are removed goes last: if the power fails ahead of that, it is found again, and no segment behind it is taken for sound.
func (l *Log) tidy(doomed []string) api.Errno {
	for _, name := range slices.Backward(doomed) {
		if err := l.disk.Remove(name); err != api.OK {
			return err
		}
	}
	s := l.last()
	if s == nil || s.size == l.disk.Size(l.name(s.base, kindLog)) {
		return api.OK
	}
	return l.disk.Cut(l.name(s.base, kindLog), s.size)
}
