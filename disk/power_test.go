package disk_test

import (
	"bytes"
	"fmt"
	"math"
	"math/rand"
	"slices"
	"strings"
	"testing"

	"towpath/api"
	"towpath/disk"
)

// changes: one of each kind, that succeed in this order on a new disk.
func changes() []func(d *disk.Disk) api.Errno {
	return []func(d *disk.Disk) api.Errno{
		func(d *disk.Disk) api.Errno { return d.Append("a", []byte("12345")) },
		func(d *disk.Disk) api.Errno { return d.Sync("a") },
		func(d *disk.Disk) api.Errno { return d.Append("a", []byte("67")) },
		func(d *disk.Disk) api.Errno { return d.Append("b") },
		func(d *disk.Disk) api.Errno { return d.Cut("a", 6) },
		func(d *disk.Disk) api.Errno { return d.Rename("a", "c") },
		func(d *disk.Disk) api.Errno { return d.Rename("c", "c") },
		func(d *disk.Disk) api.Errno { return d.Append("c") },
		func(d *disk.Disk) api.Errno { return d.Remove("b") },
		func(d *disk.Disk) api.Errno { return d.Sync() },
	}
}

// P4.4: a fuse of each length lets so many changes through, and none behind them; what fails is no change.
func TestFuse(t *testing.T) {
	all := changes()
	for n := range len(all) + 2 {
		d, without := made(t, 10), made(t, 10)
		d.Fuse(n)
		for i, do := range all {
			if d.Gone() != (i >= n) {
				t.Errorf("Fuse(%d): Gone %t ahead of change %d", n, d.Gone(), i)
			}
			down := api.ErrDown
			if i < n {
				down = api.ErrFull
				want(t, "the same without a fuse", do(without), api.OK)
			}
			want(t, "a change that fails", d.Append("a", make([]byte, 11)), down)
			before := shown(d)
			if got := do(d); (got == api.OK) != (i < n) || i >= n && (got != api.ErrDown || shown(d) != before) {
				t.Errorf("Fuse(%d): change %d: %d, %s, it was %s", n, i, got, shown(d), before)
			}
		}
		if got, want := shown(d), strings.Replace(shown(without), "gone false", fmt.Sprintf("gone %t", n <= len(all)), 1); got != want {
			t.Errorf("Fuse(%d): %s, not %s", n, got, want)
		}
	}
}

// P4.4: the last Fuse counts, an n below 0 takes it out, and without power it has no effect.
func TestFuseAgain(t *testing.T) {
	for _, c := range []struct {
		name  string
		fuses []int
		left  int // changes that succeed
	}{
		{"none", nil, 9},
		{"0", []int{0}, 0},
		{"2", []int{2}, 2},
		{"-1", []int{-1}, 9},
		{"the least", []int{math.MinInt}, 9},
		{"the greatest", []int{math.MaxInt}, 9},
		{"2, then 5", []int{2, 5}, 5},
		{"5, then 2", []int{5, 2}, 2},
		{"2, then -1", []int{2, -1}, 9},
		{"-1, then 2", []int{-1, 2}, 2},
		{"2, then the least, then 3", []int{2, math.MinInt, 3}, 3},
		{"2, then 0", []int{2, 0}, 0},
		{"0, then 2", []int{0, 2}, 0},
		{"0, then -1", []int{0, -1}, 0},
	} {
		d := made(t, 100)
		for _, n := range c.fuses {
			d.Fuse(n)
		}
		got := 0
		for range 9 {
			if d.Append("a", []byte("1")) == api.OK {
				got++
			}
		}
		if got != c.left || d.Size("a") != c.left || d.Gone() != (c.left < 9) {
			t.Errorf("%s: %d changes, not %d; %s", c.name, got, c.left, shown(d))
		}
	}
	d := made(t, 10)
	d.Fuse(2)
	d.Append("a", []byte("1"))
	d.Fuse(2)
	d.Append("a", []byte("2"))
	shows(t, "counted anew", d, "a=|12 used 2 free 8 gone false")
	d.Append("a", []byte("3"))
	for _, n := range []int{-1, 0, 1, math.MaxInt} {
		d.Fuse(n)
		want(t, "behind a failure", d.Append("a", []byte("4")), api.ErrDown)
		shows(t, "behind a failure", d, "a=|123 used 3 free 7 gone true")
	}
}

// P4.4: errors and reading burn nothing.
func TestFuseErrors(t *testing.T) {
	d := made(t, 10)
	d.Append("a", []byte("1"))
	d.Fuse(1)
	for range 3 {
		want(t, "Append", d.Append("A"), api.ErrArg)
		want(t, "Append", d.Append("a", make([]byte, 10)), api.ErrFull)
		want(t, "Sync", d.Sync("b"), api.ErrNone)
		want(t, "Cut", d.Cut("b", 0), api.ErrNone)
		want(t, "Cut", d.Cut("a", 2), api.ErrArg)
		want(t, "Rename", d.Rename("b", "c"), api.ErrNone)
		want(t, "Rename", d.Rename("a", "C"), api.ErrArg)
		want(t, "Remove", d.Remove("b"), api.ErrNone)
		want(t, "Room", d.Room(10), api.OK)
		d.Crash(1)
		d.Read("a")
	}
	want(t, "the one change", d.Sync(), api.OK)
	shows(t, "then it fails", d, "a=1| used 1 free 9 gone true")
	if b, err := d.Read("a"); err != api.OK || string(b) != "1" {
		t.Errorf("Read without power: %q, %d", b, err)
	}
}

// crashed is a disk of three files: durable|not.
func crashed(t *testing.T) *disk.Disk {
	d := made(t, 30)
	d.Append("b", []byte("12345"))
	d.Append("a", []byte("xy"))
	d.Sync()
	d.Append("b", []byte("678"))
	d.Append("a", []byte("z"))
	d.Append("c", []byte("new"))
	shows(t, "ahead", d, "a=xy|z b=12345|678 c=|new used 14 free 16 gone false")
	return d
}

// P4.5 and P4.6: picks by the order of names, cyclically; below 0, above what is there.
func TestCrash(t *testing.T) {
	d := crashed(t)
	for _, c := range []struct {
		picks []int
		want  string
	}{
		{nil, "a=xy| b=12345| c=| used 7 free 23"},
		{[]int{0}, "a=xy| b=12345| c=| used 7 free 23"},
		{[]int{-1}, "a=xy| b=12345| c=| used 7 free 23"},
		{[]int{math.MinInt}, "a=xy| b=12345| c=| used 7 free 23"},
		{[]int{1}, "a=xyz| b=123456| c=n| used 10 free 20"},
		{[]int{2}, "a=xyz| b=1234567| c=ne| used 12 free 18"},
		{[]int{3}, "a=xyz| b=12345678| c=new| used 14 free 16"},
		{[]int{4}, "a=xyz| b=12345678| c=new| used 14 free 16"},
		{[]int{math.MaxInt}, "a=xyz| b=12345678| c=new| used 14 free 16"},
		{[]int{0, 2}, "a=xy| b=1234567| c=| used 9 free 21"},
		{[]int{1, 0}, "a=xyz| b=12345| c=n| used 9 free 21"},
		{[]int{-5, 3, 1}, "a=xy| b=12345678| c=n| used 11 free 19"},
		{[]int{0, 1, 2, 3, 3}, "a=xy| b=123456| c=ne| used 10 free 20"},
	} {
		shows(t, fmt.Sprint("Crash of ", c.picks), d.Crash(c.picks...), c.want+" gone false")
	}
	shows(t, "it stays", d, "a=xy|z b=12345|678 c=|new used 14 free 16 gone false")
	d.Fuse(0)
	c := d.Crash(1)
	shows(t, "without power", c, "a=xyz| b=123456| c=n| used 10 free 20 gone false")
	for range 50 {
		want(t, "no fuse is set", c.Append("a"), api.OK)
	}
	if made(t, 5).Crash(1, 2).Free() != 5 {
		t.Error("Crash of an empty disk")
	}
}

// P4.5: a fuse that has not burnt yet is not set behind a crash.
func TestCrashWithFuse(t *testing.T) {
	d := crashed(t)
	d.Fuse(1)
	c := d.Crash()
	want(t, "first", c.Sync(), api.OK)
	want(t, "second", c.Sync(), api.OK)
	if c.Gone() || d.Gone() {
		t.Error("Gone", c.Gone(), d.Gone())
	}
	want(t, "the fuse of the first disk", d.Sync(), api.OK)
	if !d.Gone() || c.Gone() {
		t.Error("Gone", c.Gone(), d.Gone())
	}
}

// P4.10: a disk, those behind its crashes, and another one know nothing of each other.
func TestIndependent(t *testing.T) {
	d := crashed(t)
	other := made(t, 30)
	c, c2 := d.Crash(3), d.Crash(3)
	before, behind := shown(d), shown(c2)
	c.Append("a", []byte("more"))
	c.Cut("b", 1)
	c.Append("b", []byte("99999"))
	c.Rename("c", "d")
	c.Append("e")
	c.Sync()
	c.Room(1)
	c.Fuse(0)
	shows(t, "the disk that crashed", d, before)
	shows(t, "behind the other crash", c2, behind)
	shows(t, "another disk", other, "used 0 free 30 gone false")
	after := shown(c)
	d.Append("a", []byte("!!"))
	d.Cut("b", 0)
	d.Append("b", []byte("?????????"))
	d.Remove("c")
	d.Room(0)
	d.Fuse(0)
	shows(t, "behind the crash", c, after)
	shows(t, "behind the other crash", c2, behind)
	shows(t, "another disk", other, "used 0 free 30 gone false")
}

// P4.7: written, synced and renamed, wherever the power fails: the old file or the new one, whole.
func TestAtomicReplacement(t *testing.T) {
	for n := range 6 {
		for pick := -1; pick < 5; pick++ {
			d := made(t, 100)
			d.Append("now", []byte("old"))
			d.Sync()
			d.Fuse(n)
			d.Append("next", []byte("ne"))
			d.Append("next", []byte("wer"))
			d.Sync("next")
			d.Rename("next", "now")
			got, _ := d.Crash(pick).Read("now")
			if want := map[bool]string{false: "old", true: "newer"}[n >= 4]; string(got) != want {
				t.Errorf("Fuse(%d), Crash(%d): %q, not %q", n, pick, got, want)
			}
		}
	}
}

// model is a disk as the chapter says it: a list of files, sorted as they are asked for.
type model struct {
	room, left int // left: changes that are allowed, below 0 any
	files      []modelFile
}

type modelFile struct {
	name string
	all  string
	kept int
}

func (m *model) find(name string) int {
	return slices.IndexFunc(m.files, func(f modelFile) bool { return f.name == name })
}

func (m *model) used() (n int) {
	for _, f := range m.files {
		n += len(f.all)
	}
	return n
}

func (m *model) shown() string {
	l := slices.Clone(m.files)
	slices.SortFunc(l, func(a, b modelFile) int { return strings.Compare(a.name, b.name) })
	s := ""
	for _, f := range l {
		s += fmt.Sprintf("%s=%s|%s ", f.name, f.all[:f.kept], f.all[f.kept:])
	}
	return s + fmt.Sprintf("used %d free %d gone %t", m.used(), max(0, m.room-m.used()), m.left == 0)
}

func (m *model) crash(picks []int) *model {
	c := &model{room: m.room, left: -1, files: slices.Clone(m.files)}
	slices.SortFunc(c.files, func(a, b modelFile) int { return strings.Compare(a.name, b.name) })
	for i := range c.files {
		f := &c.files[i]
		n := f.kept
		if len(picks) > 0 {
			for p := picks[i%len(picks)]; p > 0 && n < len(f.all); p-- {
				n++
			}
		}
		f.all, f.kept = f.all[:n], n
	}
	return c
}

// ask does one random call on the model and on the disk.
func (m *model) ask(rnd *rand.Rand, d *disk.Disk) (what string, got, want api.Errno) {
	names := []string{"a", "b", "c", "d", "", "A"}
	name, to, n := names[rnd.Intn(6)], names[rnd.Intn(6)], rnd.Intn(12)-2
	i, kind := m.find(name), rnd.Intn(8)
	what = fmt.Sprintf("call %d %q %q %d", kind, name, to, n)
	down := m.left == 0
	bad := func(s string) bool { return s == "" || s == "A" }
	do := func() {}
	switch kind {
	case 0, 1, 2:
		part := bytes.Repeat([]byte{byte('0' + rnd.Intn(10))}, max(n, 0))
		got = d.Append(name, part[:len(part)/2], part[len(part)/2:])
		if bad(name) {
			want = api.ErrArg
		} else if len(part) > max(m.room-m.used(), 0) {
			want = api.ErrFull
		}
		do = func() {
			if i < 0 {
				m.files = append(m.files, modelFile{name: name})
				i = len(m.files) - 1
			}
			m.files[i].all += string(part)
		}
	case 3:
		got = d.Sync(name, name)
		if i < 0 {
			want = api.ErrNone
		}
		do = func() { m.files[i].kept = len(m.files[i].all) }
	case 4:
		got = d.Cut(name, n)
		if i < 0 {
			want = api.ErrNone
		} else if n < 0 || n > len(m.files[i].all) {
			want = api.ErrArg
		}
		do = func() { m.files[i].all, m.files[i].kept = m.files[i].all[:n], min(n, m.files[i].kept) }
	case 5:
		got = d.Rename(name, to)
		if i < 0 {
			want = api.ErrNone
		} else if bad(to) {
			want = api.ErrArg
		}
		do = func() {
			m.files = slices.DeleteFunc(m.files, func(f modelFile) bool { return f.name == to && to != name })
			m.files[m.find(name)].name = to
		}
	case 6:
		got = d.Remove(name)
		if i < 0 {
			want = api.ErrNone
		}
		do = func() { m.files = slices.Delete(m.files, i, i+1) }
	case 7:
		room := 20 + 3*n
		got = d.Room(room)
		m.room = room
		return what, got, api.OK
	}
	if down {
		return what, got, api.ErrDown
	}
	if want == api.OK {
		do()
		m.left = max(m.left-1, min(m.left, -1))
	}
	return what, got, want
}

// P4.2 to P4.6, P4.9: any calls answer as the model does, and show the same.
func TestByModel(t *testing.T) {
	rnd := rand.New(rand.NewSource(7))
	for range 3000 {
		d, m := made(t, 30), &model{room: 30, left: -1}
		for range 40 {
			if rnd.Intn(15) == 0 {
				n := rnd.Intn(12) - 2
				d.Fuse(n)
				if m.left != 0 {
					m.left = max(n, -1)
				}
			}
			before := m.shown()
			what, got, want := m.ask(rnd, d)
			if got != want || shown(d) != m.shown() {
				t.Fatalf("%s: %d, %s, not %d, %s; it was %s", what, got, shown(d), want, m.shown(), before)
			}
			picks := []int{rnd.Intn(9) - 2, rnd.Intn(9) - 2, rnd.Intn(9) - 2}[:rnd.Intn(4)]
			c := d.Crash(picks...)
			if shown(c) != m.crash(picks).shown() || shown(d) != m.shown() {
				t.Fatalf("Crash of %v: %s, not %s", picks, shown(c), m.crash(picks).shown())
			}
			if rnd.Intn(10) == 0 || m.left == 0 && rnd.Intn(3) == 0 {
				d, m = c, m.crash(picks)
			}
		}
	}
}
