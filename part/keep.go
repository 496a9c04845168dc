package part

import (
	"towpath/api"
	"towpath/compact"
	"towpath/dedup"
	"towpath/frame"
	"towpath/rec"
	"towpath/wire"
)

// Snapshot writes down what is known of producers and transactions, so that the batches up to here need not be asked again.
func (p *Part) Snapshot() api.Errno {
	if p == nil {
		return api.ErrNil
	}
	return p.snapshot(p.table)
}

// snapshot writes this table, the view and the log's end, at once and for good.
func (p *Part) snapshot(t *dedup.Table) api.Errno {
	raw := frame.Seal(wire.Uint(uint64(p.Next())), text(t.Bytes()), text(p.view.Bytes()))
	if len(raw) == 0 {
		return api.ErrLong
	}
	if err := p.removeTmp(); err != api.OK {
		return err
	}
	fresh := p.prefix + kindTmp
	if err := p.disk.Append(fresh, raw); err != api.OK {
		return err
	}
	if err := p.disk.Sync(fresh); err != api.OK {
		return err
	}
	return p.disk.Rename(fresh, p.prefix+kindSnap)
}

func text(b []byte) []byte { return wire.Text(string(b)) }

// Expire forgets producers that have nothing open and were not heard of since a time, and returns how many. The log may still hold their batches, so they are forgotten for good only with a snapshot without them.
func (p *Part) Expire(time int64) (int, api.Errno) {
	if p == nil {
		return 0, api.ErrNil
	}
	left := p.table.Copy()
	gone := left.Expire(time)
	if err := p.snapshot(left); err != api.OK {
		return 0, err
	}
	p.table = left
	return len(gone), api.OK
}

// Compact leaves of the closed segments below the stable offset the last record of each key, and returns how many records went. The batches that it packs name no producer any more, and markers go: what these said must be in a snapshot ahead.
func (p *Part) Compact(horizon int64) (int, api.Errno) {
	if p == nil {
		return 0, api.ErrNil
	}
	border, ok := p.border()
	if !ok {
		return 0, api.OK
	}
	if err := p.Snapshot(); err != api.OK {
		return 0, err
	}
	old := below(border, p.All())
	stay := compact.Clean(horizon, p.view.Pick(old...)...)
	packed, err := compact.Pack(stay...)
	if err == api.OK {
		err = p.Replace(border, packed...)
	}
	if err != api.OK {
		return 0, err
	}
	p.view.Forget(border)
	return len(rec.Flat(old...)) - len(stay), api.OK
}

// border returns the base of the last segment, but for the first one, below which no transaction is open.
func (p *Part) border() (int64, bool) {
	stable := p.Stable()
	border, ok := int64(0), false
	for i, base := range p.Segments() {
		if i > 0 && base <= stable {
			border, ok = base, true
		}
	}
	return border, ok
}
