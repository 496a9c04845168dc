package ledger

import (
	"towpath/compact"
	"towpath/rec"
)

// table returns what may be asked even of a nil ledger: a nil table knows of nothing.
func (l *Ledger) table() *compact.Table {
	if l == nil {
		return nil
	}
	return l.Table
}

// Get returns the value of a key.
func (l *Ledger) Get(key string) (string, bool) {
	r, there := l.table().Get(key)
	return r.Value, there
}

// Range returns at most so many records, of the keys from one on and below another. An empty end is none.
func (l *Ledger) Range(from, to string, most int) []rec.At {
	return l.table().Range(from, to, most)
}

// Len returns how many keys have a value.
func (l *Ledger) Len() int { return l.table().Len() }

// Spare returns how many records the log has beside those of keys with a value.
func (l *Ledger) Spare() int {
	if l == nil {
		return 0
	}
	return len(rec.Flat(l.log.Batches()...)) - l.Len()
}
