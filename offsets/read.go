package offsets

import (
	"math"
	"slices"

	"towpath/api"
	"towpath/compact"
	"towpath/rec"
)

// Pending is a commit whose transaction is open.
type Pending struct {
	Pid   int64
	Epoch int
	Commit
}

// Batches returns all batches.
func (o *Offsets) Batches() []api.Batch {
	return o.partition().Batches()
}

// Committed returns the records that stand.
func (o *Offsets) Committed() []rec.At {
	p := o.partition()
	rs, _, _ := p.Read(p.First(), math.MaxInt, true)
	return rs
}

// Of returns what stands of a Part.
func (o *Offsets) Of(part int) (Commit, bool) {
	for _, c := range o.All() {
		if c.Part == part {
			return c, true
		}
	}
	return Commit{}, false
}

// All returns what stands of each Part: its last commit. A table of records tells these in order, as the keys of commits are in that of their Parts. Others must not come into it, as one of the same key would hide the commit.
func (o *Offsets) All() []Commit {
	last := compact.New()
	for _, r := range o.Committed() {
		if _, err := Parse(r.Record); err == api.OK {
			last.Apply(r)
		}
	}
	return commits(last.All()...)
}

// commits returns what the records say that are those of commits.
func commits(rs ...rec.At) []Commit {
	var l []Commit
	for _, r := range rs {
		if c, err := Parse(r.Record); err == api.OK {
			l = append(l, c)
		}
	}
	return l
}

// Waiting returns the commits whose transactions are open.
func (o *Offsets) Waiting() []Pending {
	var l []Pending
	for _, b := range o.open() {
		for _, c := range commits(rec.Flat(b)...) {
			l = append(l, Pending{Pid: b.Pid, Epoch: b.Epoch, Commit: c})
		}
	}
	return l
}

// open returns the batches of open transactions: those behind which no marker of their producer and epoch stands. None begins below the stable offset.
func (o *Offsets) open() []api.Batch {
	stable := o.partition().Stable()
	var l []api.Batch
	for _, b := range o.Batches() {
		switch {
		case b.Base < stable || b.Kind == api.Plain:
		case b.Kind == api.Part:
			l = append(l, b)
		default:
			l = slices.DeleteFunc(l, func(a api.Batch) bool { return a.Pid == b.Pid && a.Epoch == b.Epoch })
		}
	}
	return l
}
