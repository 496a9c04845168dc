package txn

import (
	"slices"

	"towpath/api"
)

// States of a row.
const (
	Idle = iota
	Open
	Committing
	Aborting
	Fencing
	Retired
)

// Fates: how the epoch ahead of a row's own has ended.
const (
	unknown = iota
	committed
	abortedByOwner
	aborted
)

// Row is what is known of a transactional id.
type Row struct {
	Id    string
	Pid   int64
	Epoch int
	Who   int64
	State int
	Parts []int
	Since int64
	Limit int64
	Fate  int
}

// stored is a row as the ledger has it. Its methods that return one leave the row itself alone, and make new Parts where these change: until the ledger has the new row, the old one holds.
type stored struct {
	Row
	owner bool // its owner has asked for it to be Aborting
	fence bool // it is to be fenced when it completes
}

// kept is a stored row, and the partitions to which it owes markers.
type kept struct {
	stored
	owed map[int]struct{}
}

// owes returns to which partitions a row owes markers that has just entered its state.
func (s stored) owes() map[int]struct{} {
	if !between(Committing, Fencing, s.State) {
		return nil
	}
	owed := map[int]struct{}{}
	for _, part := range s.Parts {
		owed[part] = struct{}{}
	}
	return owed
}

// past returns the epoch whose outcome is the Fate. That of a row that is retired has no successor.
func (s stored) past() int {
	if s.State == Retired {
		return s.Epoch
	}
	return s.Epoch - 1
}

// judge tells whether a producer of an epoch may still do something, or why not.
func (s stored) judge(epoch int) api.Errno {
	switch {
	case epoch < s.Epoch:
		return api.ErrFenced
	case s.State == Retired:
		return api.ErrExhausted
	case epoch > s.Epoch:
		return api.ErrState
	}
	return api.OK
}

// late reports whether the row has been open for more ticks than it may be.
func (s stored) late(now int64) bool {
	return s.State == Open && now-s.Since > s.Limit
}

// begun returns the row of an instance that starts anew where nothing was left by an earlier one.
func (s stored) begun(limit int64) stored {
	s.Limit, s.Fate = limit, unknown
	return s
}

// taken returns the row as an instance takes it over from what another one, or itself, has left.
func (s stored) taken(who, limit int64, all []int) stored {
	switch s.State {
	case Idle:
		s = s.fencing(all)
	case Open:
		s = s.aborting(false)
		s.Parts = all
	case Committing, Aborting:
		s.fence = s.fence || who > s.Who
	}
	s.Who, s.Limit = who, limit
	return s
}

// opened returns the row with partitions added, which are open from now on, or longer.
func (s stored) opened(parts []int, now int64) stored {
	s.Parts = slices.Concat(s.Parts, parts)
	slices.Sort(s.Parts)
	s.Parts = slices.Compact(s.Parts)
	if s.State == Idle {
		s.State, s.Since = Open, now
	}
	return s
}

// asked returns the row with its end decided by its owner.
func (s stored) asked(commit bool) stored {
	if commit {
		s.State = Committing
		return s
	}
	return s.aborting(true)
}

func (s stored) aborting(owner bool) stored {
	s.State, s.owner = Aborting, owner
	return s
}

func (s stored) fencing(all []int) stored {
	s.State, s.Parts = Fencing, all
	return s
}

// completed returns the row when it owes no more markers. Behind the last epoch there is nothing to be fenced any more.
func (s stored) completed(c Config) stored {
	fence := s.fence
	s.Fate = s.outcome()
	s.Parts, s.Since, s.owner, s.fence = nil, 0, false, false
	if s.Epoch >= c.Epochs {
		s.State = Retired
		return s
	}
	s.Epoch++
	s.State = Idle
	if fence {
		return s.fencing(c.all())
	}
	return s
}

// outcome returns the fate of the epoch that a row's markers end.
func (s stored) outcome() int {
	switch {
	case s.State == Committing:
		return committed
	case s.owner:
		return abortedByOwner
	}
	return aborted
}
