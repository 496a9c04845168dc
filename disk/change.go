package disk

import "towpath/api"

// change does what all changes have in common: a disk without power does none, and each that succeeds burns the fuse.
func (d *Disk) change(do func() api.Errno) api.Errno {
	if d == nil {
		return api.ErrNil
	}
	if d.fuse.burnt() {
		return api.ErrDown
	}
	err := do()
	if err == api.OK {
		d.fuse.burn()
	}
	return err
}

// Append adds the parts to a file, and makes the file if there is none.
func (d *Disk) Append(name string, parts ...[]byte) api.Errno {
	return d.change(func() api.Errno {
		if !Name(name) {
			return api.ErrArg
		}
		f := d.file(name)
		if !fits(d.Free(), parts) || f == nil && len(d.files) >= api.MaxFiles {
			return api.ErrFull
		}
		if f == nil {
			f = d.create(name)
		}
		for _, p := range parts {
			f.bytes = append(f.bytes, p...)
		}
		return api.OK
	})
}

func fits(free int, parts [][]byte) bool {
	for _, p := range parts {
		if len(p) > free {
			return false
		}
		free -= len(p)
	}
	return true
}

func (d *Disk) create(name string) *file {
	if d.files == nil {
		d.files = map[string]*file{}
	}
	f := &file{}
	d.files[name] = f
	return f
}

// Sync makes all bytes of these files durable; of all files if no name is given.
func (d *Disk) Sync(names ...string) api.Errno {
	return d.change(func() api.Errno {
		if len(names) == 0 {
			names = d.Names("")
		}
		for _, name := range names {
			if d.file(name) == nil {
				return api.ErrNone
			}
		}
		for _, name := range names {
			f := d.file(name)
			f.kept = len(f.bytes)
		}
		return api.OK
	})
}

// Cut leaves a file its first n bytes.
func (d *Disk) Cut(name string, n int) api.Errno {
	return d.change(func() api.Errno {
		f := d.file(name)
		if f == nil {
			return api.ErrNone
		}
		if n < 0 || n > len(f.bytes) {
			return api.ErrArg
		}
		f.bytes = f.bytes[:n]
		f.kept = min(f.kept, n)
		return api.OK
	})
}

// Rename gives a file another name, and removes the file that had it.
func (d *Disk) Rename(from, to string) api.Errno {
	return d.change(func() api.Errno {
		f := d.file(from)
		if f == nil {
			return api.ErrNone
		}
		if !Name(to) {
			return api.ErrArg
		}
		delete(d.files, from) // ahead of the next line, as both names may be the same
		d.files[to] = f
		return api.OK
	})
}

// Remove removes a file.
func (d *Disk) Remove(name string) api.Errno {
	return d.change(func() api.Errno {
		if d.file(name) == nil {
			return api.ErrNone
		}
		delete(d.files, name)
		return api.OK
	})
}
