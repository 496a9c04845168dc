package msg

import (
	"slices"

	"towpath/api"
	"towpath/offsets"
	"towpath/rec"
)

// How much a message may have, where that is no limit of all layers.
const (
	mostNode    = 999
	mostErr     = 99
	mostInt     = 1023
	mostInts    = 300
	mostRows    = 65536
	mostCommits = 64
)

// Valid returns the error of m, or OK.
func Valid(m Msg) api.Errno {
	_, err := encoded(m)
	return err
}

// fits reports whether there may be such a message, however long.
func fits(m Msg) bool {
	if !m.kind() || !m.addressed() || !m.errFits() {
		return false
	}
	own, n := m.fields(), numbersOf(m)
	for f := range allFields {
		if slices.Contains(own, f) {
			if !m.fieldFits(f, n) {
				return false
			}
		} else if !m.lacks(f, n) {
			return false
		}
	}
	return true
}

// addressed reports whether the numbers of a header, but for the kind, are such that there may be.
func (h Head) addressed() bool {
	node := span{0, mostNode}
	return node.has(int64(h.From)) && node.has(int64(h.To)) && span{0, api.MaxTime}.has(h.Id)
}

func (m Msg) errFits() bool {
	return m.Err == api.OK || m.Reply && span{0, mostErr}.has(int64(m.Err))
}

// fieldFits reports whether a field that the message may have is as it may be.
func (m Msg) fieldFits(f field, n numbers) bool {
	switch f {
	case onField:
		return true
	case nameField:
		return len(m.Name) <= api.MaxName
	case intsField:
		return len(m.Ints) <= mostInts && !slices.ContainsFunc(m.Ints, strange)
	case batchField:
		return m.Batch.Kind <= api.Part && m.Batch.Base == 0 && rec.Valid(m.Batch) == api.OK
	case rowsField:
		return len(m.Rows) <= mostRows && rowsFit(m.Rows)
	case commitsField:
		return len(m.Commits) <= mostCommits && !slices.ContainsFunc(m.Commits, wrong)
	}
	return spans[f].has(n[f])
}

// lacks reports whether a field is as one that the message may not have.
func (m Msg) lacks(f field, n numbers) bool {
	switch f {
	case onField:
		return !m.On
	case nameField:
		return m.Name == ""
	case intsField:
		return len(m.Ints) == 0
	case batchField:
		return rec.Same(m.Batch, api.Batch{})
	case rowsField:
		return len(m.Rows) == 0
	case commitsField:
		return len(m.Commits) == 0
	}
	return n[f] == 0
}

func strange(n int) bool { return !span{0, mostInt}.has(int64(n)) }

func wrong(c offsets.Commit) bool {
	_, err := offsets.Record(c, 0)
	return err != api.OK
}

func rowsFit(l []rec.At) bool {
	last := int64(-1)
	for _, r := range l {
		if r.Offset <= last || r.Offset > api.MaxOffset || rec.Valid(alone(r.Record)) != api.OK {
			return false
		}
		last = r.Offset
	}
	return true
}

// alone returns the batch as which a record of Rows is encoded: it is valid if the record is.
func alone(r api.Record) api.Batch { return api.Batch{L: []api.Record{r}} }
