package msg

import (
	"towpath/api"
	"towpath/frame"
	"towpath/offsets"
	"towpath/rec"
	"towpath/wire"
)

// Encode returns the only encoding of a valid message.
func Encode(m Msg) ([]byte, api.Errno) {
	b, err := encoded(m)
	if err != api.OK {
		return nil, err
	}
	return frame.Seal(b), api.OK
}

// encoded returns the body of a message's frame.
func encoded(m Msg) ([]byte, api.Errno) {
	if !fits(m) {
		return nil, api.ErrArg
	}
	b := wire.Join([]byte{byte(m.Kind)}, wire.Flag(m.Reply), unsigned(m.From, m.To), unsigned(m.Id))
	if m.Reply {
		b = append(b, unsigned(m.Err)...)
	}
	n := numbersOf(m)
	for _, f := range m.fields() {
		b = append(b, m.encodedField(f, n)...)
	}
	if len(b) > api.MaxBody {
		return nil, api.ErrLong
	}
	return b, api.OK
}

func (m Msg) encodedField(f field, n numbers) []byte {
	switch f {
	case onField:
		return wire.Flag(m.On)
	case nameField:
		return wire.Text(m.Name)
	case intsField:
		return append(unsigned(len(m.Ints)), unsigned(m.Ints...)...)
	case batchField:
		return batchText(m.Batch)
	case rowsField:
		return rowsList(m.Rows)
	case commitsField:
		return commitsList(m.Commits)
	}
	if spans[f].signed() {
		return wire.Int(n[f])
	}
	return unsigned(n[f])
}

// unsigned encodes numbers, none of which is below 0.
func unsigned[N ~int | int64](l ...N) []byte {
	var b []byte
	for _, n := range l {
		b = append(b, wire.Uint(uint64(n))...)
	}
	return b
}

func batchText(b api.Batch) []byte {
	raw, _ := rec.Encode(b) // it is valid
	return wire.Text(string(raw))
}

// rowsList tells each offset by how far it is from the one ahead.
func rowsList(l []rec.At) []byte {
	b := unsigned(len(l))
	var last int64
	for _, r := range l {
		b = append(b, unsigned(r.Offset-last)...)
		b = append(b, batchText(alone(r.Record))...)
		last = r.Offset
	}
	return b
}

func commitsList(l []offsets.Commit) []byte {
	b := unsigned(len(l))
	for _, c := range l {
		r, _ := offsets.Record(c, 0) // it is valid
		b = append(b, wire.Join(wire.Text(r.Key), wire.Text(r.Value))...)
	}
	return b
}
