package txn

import (
	"slices"

	"towpath/api"
)

// Init gives an instance of a producer its Pid and epoch, as soon as nothing of an earlier one is left.
func (x *Coord) Init(id string, who, limit, now int64) (int64, int, api.Errno) {
	if err := x.enter(now); err != api.OK {
		return 0, 0, err
	}
	if !isId(id) || !isTime(who) || !between(1, api.MaxTime, limit) {
		return 0, 0, api.ErrArg
	}
	s, ready, err := x.claim(id, who, limit)
	if err == api.OK {
		err = x.write(s, now)
	}
	switch {
	case err != api.OK:
		return 0, 0, err
	case !ready:
		return 0, 0, api.ErrBusy
	}
	return s.Pid, s.Epoch, api.OK
}

// claim returns the row that an instance's Init makes, and whether the instance may use it at once.
func (x *Coord) claim(id string, who, limit int64) (stored, bool, api.Errno) {
	k, there := x.byId(id)
	switch {
	case !there:
		s, err := x.create(id, who, limit)
		return s, true, err
	case k.State == Retired:
		return stored{}, false, api.ErrExhausted
	case who < k.Who:
		return stored{}, false, api.ErrFenced
	case who == k.Who && k.State == Idle:
		return k.begun(limit), true, api.OK
	}
	return k.taken(who, limit, x.config.all()), false, api.OK
}

func (x *Coord) create(id string, who, limit int64) (stored, api.Errno) {
	last := x.greatest()
	switch {
	case len(x.rows) >= x.config.Rows:
		return stored{}, api.ErrFull
	case last >= api.MaxPid:
		return stored{}, api.ErrExhausted
	}
	return stored{Row: Row{Id: id, Pid: last + 1, Who: who, Limit: limit}}, api.OK
}

// Add adds partitions to a producer's transaction, which it opens if none is open.
func (x *Coord) Add(pid int64, epoch int, now int64, parts ...int) api.Errno {
	k, err := x.find(pid, now)
	if err != api.OK {
		return err
	}
	if len(parts) == 0 || slices.ContainsFunc(parts, x.config.lacks) {
		return api.ErrArg
	}
	if err := k.judge(epoch); err != api.OK {
		return err
	}
	if k.State != Idle && k.State != Open {
		return api.ErrBusy
	}
	return x.write(k.opened(parts, now), now)
}

// End decides how a producer's transaction ends, and returns the next epoch when it has.
func (x *Coord) End(pid int64, epoch int, commit bool, now int64) (int, api.Errno) {
	k, err := x.find(pid, now)
	if err != api.OK {
		return 0, err
	}
	if epoch == k.past() && (k.Fate == committed && commit || k.Fate == abortedByOwner && !commit) {
		return k.Epoch, api.OK
	}
	err = k.judge(epoch)
	switch {
	case err != api.OK:
		return 0, err
	case k.State == Idle:
		return k.Epoch, api.OK
	case k.State == Committing && !commit:
		return 0, api.ErrState
	case k.State == Open:
		if err := x.write(k.asked(commit), now); err != api.OK {
			return 0, err
		}
	}
	return 0, api.ErrBusy
}

// Marked takes note that a marker is written.
func (x *Coord) Marked(pid int64, epoch int, part int, now int64) api.Errno {
	k, err := x.find(pid, now)
	if err != api.OK {
		return err
	}
	if _, owes := k.owed[part]; !owes || epoch != k.Epoch {
		return api.OK
	}
	if len(k.owed) == 1 {
		return x.write(k.completed(x.config), now)
	}
	delete(k.owed, part)
	return api.OK
}

// Tick aborts what has been open for too long, and returns how many rows that were.
func (x *Coord) Tick(now int64) (int, api.Errno) {
	if err := x.enter(now); err != api.OK {
		return 0, err
	}
	n := 0
	for _, pid := range sorted(x.rows) {
		k := x.rows[pid]
		if !k.late(now) {
			continue
		}
		if err := x.write(k.aborting(false), now); err != api.OK {
			return n, err
		}
		n++
	}
	return n, api.OK
}
