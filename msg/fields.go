package msg

import (
	"slices"

	"towpath/api"
)

// field is one of what a message may have beside its header.
type field int

// The fields. Those that are numbers stand ahead of the others.
const (
	partField field = iota
	offsetField
	topField
	mostField
	pidField
	epochField
	seqField
	whoField
	limitField
	memberField
	generationField
	onField
	nameField
	intsField
	batchField
	rowsField
	commitsField
	allFields
)

const numberFields = onField

// What fields a message may have, by its kind: first of a request, then of a reply.
var layouts = [...][2][]field{
	Produce: {{partField, batchField}, {offsetField, onField}},
	Fetch:   {{partField, offsetField, mostField, onField}, {offsetField, topField, rowsField}},
	Join:    {{memberField, generationField, intsField}, {generationField}},
	Beat:    {{memberField, generationField}, {}},
	Leave:   {{memberField}, {}},
	Parts:   {{memberField, generationField}, {intsField}},
	Init:    {{nameField, whoField, limitField}, {pidField, epochField}},
	Add:     {{pidField, epochField, intsField}, {}},
	End:     {{pidField, epochField, onField}, {epochField}},
	Commit:  {{pidField, epochField, seqField, memberField, generationField, commitsField}, {onField}},
	Offset:  {{partField}, {offsetField, onField}},
	Mark:    {{pidField, epochField, partField, onField}, {pidField, epochField, partField, onField}},
}

// kind reports whether there is such a kind of messages.
func (h Head) kind() bool { return span{1, Mark}.has(int64(h.Kind)) }

// fields returns those that a message may have, in the order in which they are encoded. One of no kind has none, and neither has a refusal.
func (m Msg) fields() []field {
	switch {
	case !m.kind() || m.Err != api.OK:
		return nil
	case m.Reply:
		return slices.Clone(layouts[m.Kind][1])
	}
	return slices.Clone(layouts[m.Kind][0])
}

// span is from where to where a number may be.
type span struct{ least, most int64 }

func (s span) has(n int64) bool { return s.least <= n && n <= s.most }

// signed reports whether a number of this span is encoded with its sign.
func (s span) signed() bool { return s.least < 0 }

// The spans of the fields that are numbers.
var spans = [numberFields]span{
	partField:       {0, mostInt},
	offsetField:     {-1, api.MaxOffset + 1},
	topField:        {-1, api.MaxOffset + 1},
	mostField:       {1, 1024},
	pidField:        {0, api.MaxPid},
	epochField:      {0, api.MaxEpoch + 1},
	seqField:        {0, api.MaxSeq},
	whoField:        {0, api.MaxTime},
	limitField:      {0, api.MaxTime},
	memberField:     {0, 64},
	generationField: {0, 1<<31 - 1},
}

// numbers are the fields that are such.
type numbers [numberFields]int64

func numbersOf(m Msg) numbers {
	return numbers{
		partField:       int64(m.Part),
		offsetField:     m.Offset,
		topField:        m.Top,
		mostField:       int64(m.Most),
		pidField:        m.Pid,
		epochField:      int64(m.Epoch),
		seqField:        int64(m.Seq),
		whoField:        m.Who,
		limitField:      m.Limit,
		memberField:     int64(m.Member),
		generationField: int64(m.Generation),
	}
}

// take gives a message its numbers.
func (m *Msg) take(n numbers) {
	m.Part = int(n[partField])
	m.Offset = n[offsetField]
	m.Top = n[topField]
	m.Most = int(n[mostField])
	m.Pid = n[pidField]
	m.Epoch = int(n[epochField])
	m.Seq = int(n[seqField])
	m.Who = n[whoField]
	m.Limit = n[limitField]
	m.Member = int(n[memberField])
	m.Generation = int(n[generationField])
}
