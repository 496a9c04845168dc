package disk_test

import (
	"fmt"
	"math"
	"slices"
	"strings"
	"testing"

	"towpath/api"
	"towpath/disk"
)

// The calls keep the signatures that the chapter lists.
var (
	_ func(int) (*disk.Disk, api.Errno)             = disk.New
	_ func(string) bool                             = disk.Name
	_ func(*disk.Disk, string, ...[]byte) api.Errno = (*disk.Disk).Append
	_ func(*disk.Disk, ...string) api.Errno         = (*disk.Disk).Sync
	_ func(*disk.Disk, string, int) api.Errno       = (*disk.Disk).Cut
	_ func(d *disk.Disk, from, to string) api.Errno = (*disk.Disk).Rename
	_ func(*disk.Disk, string) api.Errno            = (*disk.Disk).Remove
	_ func(*disk.Disk, string) ([]byte, api.Errno)  = (*disk.Disk).Read
	_ func(*disk.Disk, string) int                  = (*disk.Disk).Size
	_ func(*disk.Disk, string) int                  = (*disk.Disk).Kept
	_ func(*disk.Disk, string) []string             = (*disk.Disk).Names
	_ func(*disk.Disk) int                          = (*disk.Disk).Used
	_ func(*disk.Disk) int                          = (*disk.Disk).Free
	_ func(*disk.Disk, int) api.Errno               = (*disk.Disk).Room
	_ func(*disk.Disk, int)                         = (*disk.Disk).Fuse
	_ func(*disk.Disk) bool                         = (*disk.Disk).Gone
	_ func(*disk.Disk, ...int) *disk.Disk           = (*disk.Disk).Crash
)

func made(t *testing.T, room int) *disk.Disk {
	t.Helper()
	d, err := disk.New(room)
	if err != api.OK || d == nil {
		t.Fatalf("New(%d): %v, %d", room, d, err)
	}
	return d
}

func want(t *testing.T, what string, got, err api.Errno) {
	t.Helper()
	if got != err {
		t.Errorf("%s: %d, not %d", what, got, err)
	}
}

// shown tells all that a disk shows: each file with a bar behind its durable bytes, and its numbers.
func shown(d *disk.Disk) string {
	var s strings.Builder
	for _, name := range d.Names("") {
		b, err := d.Read(name)
		if err != api.OK || len(b) != d.Size(name) {
			return fmt.Sprintf("%s: Read %q, %d; Size %d", name, b, err, d.Size(name))
		}
		k := d.Kept(name)
		fmt.Fprintf(&s, "%s=%s|%s ", name, b[:k], b[k:])
	}
	fmt.Fprintf(&s, "used %d free %d gone %t", d.Used(), d.Free(), d.Gone())
	return s.String()
}

func shows(t *testing.T, what string, d *disk.Disk, want string) {
	t.Helper()
	if got := shown(d); got != want {
		t.Errorf("%s: %s, not %s", what, got, want)
	}
}

// P4.1: rooms at the limits and beyond.
func TestNew(t *testing.T) {
	for _, room := range []int{0, 1, 10, api.MaxDisk - 1, api.MaxDisk} {
		shows(t, fmt.Sprint("New of ", room), made(t, room), fmt.Sprintf("used 0 free %d gone false", room))
	}
	for _, room := range []int{-1, math.MinInt, api.MaxDisk + 1, math.MaxInt} {
		if d, err := disk.New(room); d != nil || err != api.ErrArg {
			t.Errorf("New(%d): %v, %d", room, d, err)
		}
	}
}

// P4.1: lengths at the limits, and each byte.
func TestName(t *testing.T) {
	for s, want := range map[string]bool{
		"":                       false,
		"a":                      true,
		strings.Repeat("a", 23):  true,
		strings.Repeat("a", 24):  true,
		strings.Repeat("a", 25):  false,
		strings.Repeat("a", 999): false,
		"log-0.12":               true,
		".":                      true,
		"..":                     true,
		"-":                      true,
		"a b":                    false,
		"aB":                     false,
		"a_b":                    false,
		"a/b":                    false,
		"\u00e9":                 false,
		"a\u0131":                false,
		"\xff":                   false,
		"a\x00":                  false,
		"a\n":                    false,
	} {
		if disk.Name(s) != want {
			t.Errorf("Name(%q): %t", s, !want)
		}
	}
	for c := range 256 {
		good := strings.Contains("abcdefghijklmnopqrstuvwxyz0123456789.-", string([]byte{byte(c)}))
		for _, s := range []string{string([]byte{byte(c)}), string([]byte{'a', byte(c)}), string([]byte{byte(c), 'a'})} {
			if disk.Name(s) != good {
				t.Errorf("Name(%q): %t", s, !good)
			}
		}
	}
}

// The chapter's first example.
func TestExample1(t *testing.T) {
	d := made(t, 10)
	want(t, "Append 1234567", d.Append("a", []byte("1234567")), api.OK)
	want(t, "Sync", d.Sync("a"), api.OK)
	want(t, "Append 89", d.Append("a", []byte("89")), api.OK)
	want(t, "Append to b", d.Append("b", []byte("12")), api.ErrFull)
	shows(t, "the disk", d, "a=1234567|89 used 9 free 1 gone false")
	shows(t, "Crash()", d.Crash(), "a=1234567| used 7 free 3 gone false")
	shows(t, "Crash(1)", d.Crash(1), "a=12345678| used 8 free 2 gone false")
	shows(t, "the disk behind them", d, "a=1234567|89 used 9 free 1 gone false")
	want(t, "Rename", d.Rename("a", "c"), api.OK)
	shows(t, "Rename", d, "c=1234567|89 used 9 free 1 gone false")
}

// The chapter's second example.
func TestExample2(t *testing.T) {
	d := made(t, 10)
	d.Fuse(1)
	want(t, "Append", d.Append("a", []byte("1")), api.OK)
	want(t, "Sync", d.Sync("a"), api.ErrDown)
	shows(t, "the disk", d, "a=|1 used 1 free 9 gone true")
}

// P4.2: parts in their order, none of them, and files that are made empty.
func TestAppend(t *testing.T) {
	d := made(t, 100)
	want(t, "several parts", d.Append("a", []byte("1"), nil, []byte("23"), []byte{}, []byte("1")), api.OK)
	want(t, "no part", d.Append("b"), api.OK)
	want(t, "a part of nothing", d.Append("c", nil), api.OK)
	shows(t, "made", d, "a=|1231 b=| c=| used 4 free 96 gone false")
	want(t, "no part, again", d.Append("a"), api.OK)
	want(t, "more", d.Append("a", []byte("4")), api.OK)
	want(t, "Sync", d.Sync("a"), api.OK)
	want(t, "and more", d.Append("a", []byte("5"), []byte("6")), api.OK)
	shows(t, "more", d, "a=12314|56 b=| c=| used 7 free 93 gone false")
}

// P4.2: the errors of Append, alone and two at once.
func TestAppendErrors(t *testing.T) {
	d := made(t, 10)
	d.Append("a", []byte("12345"), []byte("6789"))
	before := shown(d)
	for name, err := range map[string]api.Errno{
		"": api.ErrArg, "A": api.ErrArg, strings.Repeat("n", 25): api.ErrArg,
		strings.Repeat("n", 24): api.ErrFull, "a": api.ErrFull, "b": api.ErrFull,
	} {
		want(t, "two bytes to "+name, d.Append(name, []byte("12")), err)
		want(t, "two bytes by one to "+name, d.Append(name, []byte("1"), nil, []byte("2")), err)
		want(t, "very many to "+name, d.Append(name, make([]byte, api.MaxDisk), make([]byte, api.MaxDisk)), err)
	}
	shows(t, "behind the errors", d, before)
	want(t, "the last byte", d.Append("b", []byte("1")), api.OK)
	want(t, "one more", d.Append("b", []byte("1")), api.ErrFull)
	want(t, "nothing", d.Append("b"), api.OK)
	want(t, "nothing in a new file", d.Append("c", []byte{}), api.OK)
	shows(t, "full", d, "a=|123456789 b=|1 c=| used 10 free 0 gone false")
	d.Fuse(0)
	want(t, "without power, a wrong name", d.Append("", make([]byte, 99)), api.ErrDown)
}

// P4.2: a disk without room holds empty files.
func TestNoRoom(t *testing.T) {
	d := made(t, 0)
	want(t, "a byte", d.Append("a", []byte("1")), api.ErrFull)
	shows(t, "none", d, "used 0 free 0 gone false")
	want(t, "nothing", d.Append("a"), api.OK)
	want(t, "Sync", d.Sync(), api.OK)
	want(t, "Cut", d.Cut("a", 0), api.OK)
	want(t, "Rename", d.Rename("a", "b"), api.OK)
	shows(t, "one", d, "b=| used 0 free 0 gone false")
	shows(t, "Crash", d.Crash(7), "b=| used 0 free 0 gone false")
}

func numbered(i int) string { return fmt.Sprintf("f%03d", i) }

// P4.2: MaxFiles files, and one more.
func TestManyFiles(t *testing.T) {
	d := made(t, 1000)
	for i := range api.MaxFiles {
		want(t, numbered(i), d.Append(numbered(i), []byte("1")), api.OK)
	}
	want(t, "one more", d.Append("more", []byte("1")), api.ErrFull)
	want(t, "one more, empty", d.Append("more"), api.ErrFull)
	want(t, "one more with a wrong name", d.Append("More"), api.ErrArg)
	want(t, "to one that is there", d.Append(numbered(127), []byte("2")), api.OK)
	want(t, "Rename", d.Rename(numbered(0), "g"), api.OK)
	if l := d.Names(""); len(l) != 128 || d.Used() != 129 || l[127] != "g" || l[0] != numbered(1) {
		t.Error("files", len(l), d.Used(), l)
	}
	c := d.Crash(1)
	want(t, "one more behind a crash", c.Append("more"), api.ErrFull)
	want(t, "Rename onto another one", d.Rename("g", numbered(1)), api.OK)
	want(t, "one more again", d.Append("more"), api.OK)
	want(t, "and yet one more", d.Append("yet"), api.ErrFull)
	want(t, "Remove", d.Remove("more"), api.OK)
	want(t, "and yet one more", d.Append("yet"), api.OK)
	if len(d.Names("")) != 128 || len(c.Names("")) != 128 {
		t.Error("files", len(d.Names("")), len(c.Names("")))
	}
}

// P4.2: some files, one twice, all of them, and none.
func TestSync(t *testing.T) {
	d := made(t, 100)
	want(t, "no files", d.Sync(), api.OK)
	for _, name := range []string{"a", "b", "c", "d"} {
		d.Append(name, []byte("12"))
	}
	want(t, "one", d.Sync("b"), api.OK)
	shows(t, "one", d, "a=|12 b=12| c=|12 d=|12 used 8 free 92 gone false")
	want(t, "one that is not there", d.Sync("a", "e", "c"), api.ErrNone)
	want(t, "a wrong name", d.Sync(""), api.ErrNone)
	want(t, "a wrong name behind", d.Sync("a", "A"), api.ErrNone)
	shows(t, "behind errors", d, "a=|12 b=12| c=|12 d=|12 used 8 free 92 gone false")
	want(t, "some, one twice", d.Sync("d", "a", "d"), api.OK)
	d.Append("a", []byte("3"))
	shows(t, "some", d, "a=12|3 b=12| c=|12 d=12| used 9 free 91 gone false")
	names := []string{}
	want(t, "all", d.Sync(names...), api.OK)
	shows(t, "all", d, "a=123| b=12| c=12| d=12| used 9 free 91 gone false")
	given := []string{"a", "b"}
	d.Sync(given...)
	if given[0] != "a" || given[1] != "b" {
		t.Error("Sync changes its argument")
	}
	d.Fuse(0)
	want(t, "without power", d.Sync("e"), api.ErrDown)
	want(t, "all, without power", d.Sync(), api.ErrDown)
}

// P4.2: to each length, and what is durable of it.
func TestCut(t *testing.T) {
	file := func() *disk.Disk {
		d := made(t, 10)
		d.Append("a", []byte("12345"))
		d.Sync()
		d.Append("a", []byte("678"))
		return d
	}
	for n, left := range []string{"|", "1|", "12|", "123|", "1234|", "12345|", "12345|6", "12345|67", "12345|678"} {
		d := file()
		want(t, "Cut", d.Cut("a", n), api.OK)
		shows(t, fmt.Sprint("Cut to ", n), d, fmt.Sprintf("a=%s used %d free %d gone false", left, n, 10-n))
		shows(t, fmt.Sprint("Crash behind Cut to ", n), d.Crash(), fmt.Sprintf("a=%s| used %d free %d gone false", left[:min(n, 5)], min(n, 5), 10-min(n, 5)))
		want(t, "Append", d.Append("a", []byte("x")), api.OK)
		shows(t, fmt.Sprint("Append behind Cut to ", n), d, fmt.Sprintf("a=%sx used %d free %d gone false", left, n+1, 9-n))
	}
	d := file()
	before := shown(d)
	for _, n := range []int{-1, math.MinInt, 9, 10, math.MaxInt} {
		want(t, fmt.Sprint("Cut to ", n), d.Cut("a", n), api.ErrArg)
		want(t, fmt.Sprint("Cut to ", n, " of none"), d.Cut("b", n), api.ErrNone)
	}
	want(t, "Cut of a wrong name", d.Cut("", 0), api.ErrNone)
	shows(t, "behind errors", d, before)
	d.Fuse(0)
	want(t, "without power", d.Cut("b", -1), api.ErrDown)
}

// P4.2: to a new name, onto a file, onto itself, and wrong names.
func TestRename(t *testing.T) {
	d := made(t, 20)
	d.Append("a", []byte("1234567"))
	d.Append("b", []byte("xyz"))
	d.Sync()
	d.Append("a", []byte("89"))
	d.Append("b", []byte("."))
	for _, to := range []string{"", "B", strings.Repeat("n", 25)} {
		want(t, "to "+to, d.Rename("a", to), api.ErrArg)
		want(t, "none to "+to, d.Rename("c", to), api.ErrNone)
	}
	want(t, "none onto one", d.Rename("c", "a"), api.ErrNone)
	want(t, "none onto itself", d.Rename("c", "c"), api.ErrNone)
	want(t, "a wrong name onto itself", d.Rename("", ""), api.ErrNone)
	want(t, "onto itself", d.Rename("a", "a"), api.OK)
	shows(t, "as it was", d, "a=1234567|89 b=xyz|. used 13 free 7 gone false")
	want(t, "to a new name", d.Rename("b", strings.Repeat("n", 24)), api.OK)
	want(t, "and back", d.Rename(strings.Repeat("n", 24), "b"), api.OK)
	want(t, "to a new name", d.Rename("a", "c"), api.OK)
	shows(t, "a new name", d, "b=xyz|. c=1234567|89 used 13 free 7 gone false")
	want(t, "onto another one", d.Rename("c", "b"), api.OK)
	shows(t, "onto another one", d, "b=1234567|89 used 9 free 11 gone false")
	shows(t, "the name is durable", d.Crash(), "b=1234567| used 7 free 13 gone false")
	want(t, "the old name", d.Append("c", []byte("new")), api.OK)
	shows(t, "the old name", d, "b=1234567|89 c=|new used 12 free 8 gone false")
	d.Fuse(0)
	want(t, "without power", d.Rename("none", ""), api.ErrDown)
}

// P4.2: a file that is removed is gone at once, with its durable bytes.
func TestRemove(t *testing.T) {
	d := made(t, 20)
	d.Append("a", []byte("123"))
	d.Append("b", []byte("45"))
	d.Sync()
	want(t, "none", d.Remove("c"), api.ErrNone)
	want(t, "a wrong name", d.Remove(""), api.ErrNone)
	want(t, "one", d.Remove("a"), api.OK)
	want(t, "again", d.Remove("a"), api.ErrNone)
	shows(t, "removed", d, "b=45| used 2 free 18 gone false")
	shows(t, "it is durable", d.Crash(9), "b=45| used 2 free 18 gone false")
	want(t, "made again", d.Append("a", []byte("6")), api.OK)
	shows(t, "nothing of the old one", d, "a=|6 b=45| used 3 free 17 gone false")
	d.Fuse(0)
	want(t, "without power", d.Remove("none"), api.ErrDown)
}

// P4.3: what is not there.
func TestReadNone(t *testing.T) {
	d := made(t, 20)
	d.Append("a", []byte("123"))
	for _, name := range []string{"b", "", "A", strings.Repeat("n", 25), "aa"} {
		if b, err := d.Read(name); err != api.ErrNone || len(b) > 0 || d.Size(name) != 0 || d.Kept(name) != 0 {
			t.Errorf("%q: %q, %d, %d, %d", name, b, err, d.Size(name), d.Kept(name))
		}
	}
	d.Append("e")
	if b, err := d.Read("e"); err != api.OK || len(b) > 0 {
		t.Errorf("an empty file: %q, %d", b, err)
	}
}

// P4.3: in increasing order of bytes, by any prefix.
func TestNames(t *testing.T) {
	d := made(t, 20)
	for _, name := range []string{"b", "ab", "a", "b.1", "b-1", "b10", "b9", "ba", "z", "0", ".x", "-x"} {
		d.Append(name)
	}
	for prefix, want := range map[string]string{
		"":      "-x .x 0 a ab b b-1 b.1 b10 b9 ba z",
		"a":     "a ab",
		"b":     "b b-1 b.1 b10 b9 ba",
		"b1":    "b10",
		"b.":    "b.1",
		"b.1":   "b.1",
		"b.1x":  "",
		"c":     "",
		"A":     "",
		"\xff":  "",
		"z":     "z",
		" ":     "",
		"b10 b": "",
	} {
		if got := strings.Join(d.Names(prefix), " "); got != want {
			t.Errorf("Names(%q): %s, not %s", prefix, got, want)
		}
	}
	if l := made(t, 1).Names(""); len(l) != 0 {
		t.Error("names on an empty disk", l)
	}
}

// P4.3 and P4.8: another capacity, above and below what is used; files stay.
func TestRoom(t *testing.T) {
	d := made(t, 10)
	d.Append("a", []byte("123"))
	shows(t, "the chapter's example", d, "a=|123 used 3 free 7 gone false")
	for _, n := range []int{-1, math.MinInt, api.MaxDisk + 1, math.MaxInt} {
		want(t, fmt.Sprint("Room of ", n), d.Room(n), api.ErrArg)
	}
	shows(t, "behind errors", d, "a=|123 used 3 free 7 gone false")
	for n, free := range map[int]int{0: 0, 2: 0, 3: 0, 4: 1, 5: 2, api.MaxDisk: api.MaxDisk - 3} {
		want(t, fmt.Sprint("Room of ", n), d.Room(n), api.OK)
		shows(t, fmt.Sprint("Room of ", n), d, fmt.Sprintf("a=|123 used 3 free %d gone false", free))
		shows(t, fmt.Sprint("Crash with Room of ", n), d.Crash(3), fmt.Sprintf("a=123| used 3 free %d gone false", free))
	}
	d.Room(1)
	want(t, "a byte on less than nothing", d.Append("a", []byte("1")), api.ErrFull)
	want(t, "nothing on less than nothing", d.Append("b"), api.OK)
	want(t, "Cut", d.Cut("a", 1), api.OK)
	shows(t, "just full", d, "a=|1 b=| used 1 free 0 gone false")
	d.Fuse(0)
	want(t, "without power", d.Room(5), api.OK)
	shows(t, "a capacity is no change of files", d, "a=|1 b=| used 1 free 4 gone true")
	shows(t, "and behind the crash", d.Crash(), "a=| b=| used 0 free 5 gone false")
}

// P4.8: MaxDisk bytes in one file, and one more.
func TestGreatestDisk(t *testing.T) {
	d := made(t, api.MaxDisk)
	want(t, "all but one", d.Append("a", make([]byte, api.MaxDisk-1)), api.OK)
	want(t, "two", d.Append("a", []byte("1"), []byte("2")), api.ErrFull)
	want(t, "one", d.Append("a", []byte("1")), api.OK)
	if d.Free() != 0 || d.Used() != api.MaxDisk || d.Crash().Used() != 0 || d.Crash(math.MaxInt).Used() != api.MaxDisk {
		t.Error("Free", d.Free(), "Used", d.Used())
	}
}

// On a nil disk each call answers as the chapter says.
func TestNil(t *testing.T) {
	var d *disk.Disk
	want(t, "Append", d.Append("", nil), api.ErrNil)
	want(t, "Append", d.Append("a", []byte("1")), api.ErrNil)
	want(t, "Sync", d.Sync(), api.ErrNil)
	want(t, "Sync", d.Sync("a"), api.ErrNil)
	want(t, "Cut", d.Cut("a", -1), api.ErrNil)
	want(t, "Rename", d.Rename("a", ""), api.ErrNil)
	want(t, "Remove", d.Remove("a"), api.ErrNil)
	want(t, "Room", d.Room(-1), api.ErrNil)
	want(t, "Room", d.Room(1), api.ErrNil)
	if b, err := d.Read("a"); len(b) > 0 || err != api.ErrNil {
		t.Error("Read", b, err)
	}
	for _, n := range []int{-1, 0, 1} {
		d.Fuse(n)
	}
	if d.Size("a") != 0 || d.Kept("a") != 0 || d.Used() != 0 || d.Free() != 0 || len(d.Names("")) != 0 || !d.Gone() || d.Crash() != nil || d.Crash(1, 2) != nil {
		t.Error("a nil disk has something")
	}
}

// P1: a disk that New did not make has no room, and no call panics.
func TestZeroDisk(t *testing.T) {
	d := new(disk.Disk)
	want(t, "Sync", d.Sync(), api.OK)
	want(t, "Remove", d.Remove("a"), api.ErrNone)
	want(t, "Rename", d.Rename("a", "b"), api.ErrNone)
	want(t, "a byte", d.Append("a", []byte("1")), api.ErrFull)
	shows(t, "Crash", d.Crash(1), "used 0 free 0 gone false")
	want(t, "nothing", d.Append("a"), api.OK)
	want(t, "Room", d.Room(1), api.OK)
	want(t, "a byte", d.Append("a", []byte("1")), api.OK)
	shows(t, "a file", d, "a=|1 used 1 free 0 gone false")
}

// Rules 4 and 5: a disk keeps no memory of its callers, and gives out none of its own.
func TestMemory(t *testing.T) {
	d := made(t, 100)
	part := append(make([]byte, 0, 50), "123"...)
	d.Append("a", part, part)
	part[0] = 'x'
	_ = append(part, "yz"...)
	shows(t, "the part is written to", d, "a=|123123 used 6 free 94 gone false")
	b, _ := d.Read("a")
	b[0] = 'x'
	_ = append(b, "yz"...)
	d.Append("a", []byte("4"))
	if string(b) != "x23123" || string(part) != "x23" || string(part[:5]) != "x23yz" {
		t.Errorf("what was given and read: %q, %q", b, part)
	}
	shows(t, "what was read is written to", d, "a=|1231234 used 7 free 93 gone false")
	d.Append("b")
	l := d.Names("")
	l[0] = "x"
	_ = append(l, "y")
	_ = append(d.Names("a"), "y")
	shows(t, "the names are written to", d, "a=|1231234 b=| used 7 free 93 gone false")
	picks := []int{1, 2}
	d.Crash(picks...)
	if !slices.Equal(picks, []int{1, 2}) {
		t.Error("Crash changes its picks")
	}
}
