package disk

import "slices"

// fuse counts the changes up to a power failure. The zero fuse never burns.
type fuse struct {
	set  bool
	left int // changes till the power fails, if set
}

func (f *fuse) burn() {
	if f.set {
		f.left--
	}
}

func (f *fuse) burnt() bool { return f.set && f.left == 0 }

// Fuse lets the power fail behind n more changes; never, if n is below 0.
func (d *Disk) Fuse(n int) {
	if d.Gone() {
		return
	}
	d.fuse = fuse{set: n >= 0, left: max(n, 0)}
}

// Gone reports whether the power has failed.
func (d *Disk) Gone() bool { return d == nil || d.fuse.burnt() }

// Crash returns the disk that is found when the power is back: each file, in the order of names, has kept as many of its bytes that were not durable as the next of the picks says.
func (d *Disk) Crash(picks ...int) *Disk {
	if d == nil {
		return nil
	}
	after := &Disk{room: d.room}
	for i, name := range d.Names("") {
		pick := 0
		if len(picks) > 0 {
			pick = picks[i%len(picks)]
		}
		left := d.file(name).after(pick)
		f := after.create(name)
		f.bytes, f.kept = left, len(left)
	}
	return after
}

// after returns the bytes of a file behind a crash, in memory of their own. The pick, which may be any number, is brought into its bounds ahead of the sum.
func (f *file) after(pick int) []byte {
	pick = min(max(pick, 0), len(f.bytes)-f.kept)
	return slices.Clone(f.bytes[:f.kept+pick])
}
