package rec

import "towpath/api"

// Valid returns the first error of b, in the order of the chapter, or OK.
func Valid(b api.Batch) api.Errno {
	if !inLimits(b) || !inForm(b) {
		return api.ErrArg
	}
	if len(b.L) > api.MaxRecords {
		return api.ErrLong
	}
	for _, r := range b.L {
		if err := validRecord(r); err != api.OK {
			return err
		}
	}
	return countable(b)
}

func from0to(most, n int64) bool { return 0 <= n && n <= most }

// inLimits looks at each number of a batch by itself.
func inLimits(b api.Batch) bool {
	return from0to(api.Abort, int64(b.Kind)) && // the greatest of the kinds
		from0to(api.MaxOffset, b.Base) &&
		from0to(api.MaxPid, b.Pid) &&
		from0to(api.MaxEpoch, int64(b.Epoch)) &&
		from0to(api.MaxSeq, int64(b.Seq)) &&
		from0to(api.MaxTime, b.Time)
}

// inForm looks at what a batch may have beside what.
func inForm(b api.Batch) bool {
	if b.Pid == 0 && (b.Kind != api.Plain || b.Epoch != 0 || b.Seq != 0) {
		return false
	}
	if marker(b) {
		return b.Seq == 0 && len(b.L) == 0
	}
	return len(b.L) > 0
}

func validRecord(r api.Record) api.Errno {
	switch {
	case len(r.Key) > api.MaxText || len(r.Value) > api.MaxText:
		return api.ErrLong
	case !from0to(api.MaxTime, r.Time) || r.Gone && r.Value != "":
		return api.ErrArg
	}
	return api.OK
}

// countable tells whether the last record has an offset and a sequence number of its own below the limits. Each number has been looked at by then, so that no sum overflows.
func countable(b api.Batch) api.Errno {
	last := int64(Span(b)) - 1
	if b.Base+last > api.MaxOffset || b.Pid != 0 && int64(b.Seq)+last > api.MaxSeq {
		return api.ErrExhausted
	}
	return api.OK
}
