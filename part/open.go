package part

import (
	"towpath/api"
	"towpath/dedup"
	"towpath/disk"
	"towpath/frame"
	"towpath/iso"
	"towpath/seglog"
	"towpath/wire"
)

// Open returns the partition of the files on d, as far as they are whole.
func Open(d *disk.Disk, prefix string, c Config) (*Part, api.Errno) {
	if c.Producers < 1 || c.Producers > mostProducers {
		return nil, api.ErrArg
	}
	l, err := seglog.Open(d, prefix, c.Config)
	if err != api.OK {
		return nil, err
	}
	p := &Part{Log: l, disk: d, prefix: prefix}
	if err := p.removeTmp(); err != api.OK {
		return nil, err
	}
	p.restore(c.Producers)
	return p, api.OK
}

// removeTmp removes a snapshot that was not finished.
func (p *Part) removeTmp() api.Errno {
	if _, err := p.disk.Read(p.prefix + kindTmp); err == api.ErrNone {
		return api.OK
	}
	return p.disk.Remove(p.prefix + kindTmp)
}

// restore makes the table and the view: from the snapshot and the batches behind it, or, if there is none that fits the log, from all batches, as from offset 0 on.
func (p *Part) restore(producers int) {
	offset, ok := p.load(producers)
	if !ok {
		p.table, _ = dedup.New(producers)
		p.view = iso.New()
	}
	for _, b := range p.All() {
		if b.Base >= offset {
			p.apply(b)
		}
	}
}

// load takes the table and the view from the snapshot, and returns its offset, if the file is one that fits the log.
func (p *Part) load(producers int) (int64, bool) {
	raw, _ := p.disk.Read(p.prefix + kindSnap)
	body, ok := frame.Open(raw)
	if !ok {
		return 0, false
	}
	r := wire.NewReader(body)
	offset := int64(r.Uint()) // one beyond an int64 comes out below 0, and so below the log
	rows, txns := r.Text(api.MaxBody), r.Text(api.MaxBody)
	if r.End() != api.OK {
		return 0, false
	}
	table, err := dedup.Load([]byte(rows), producers)
	if err != api.OK {
		return 0, false
	}
	view, err := iso.Load([]byte(txns))
	if err != api.OK {
		return 0, false
	}
	if offset < max(p.First(), table.Next(), view.Next()) || offset > p.Next() {
		return 0, false
	}
	p.table, p.view = table, view
	return offset, true
}
