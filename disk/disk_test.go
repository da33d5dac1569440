package disk

import (
	"math"
	"slices"
	"strconv"
	"strings"
	"testing"

	"amanuensis/api"
)

// most is room enough for what a test does not ask of it.
const most = 1000

// newDisk gives a disk that New made.
func newDisk(t *testing.T, most int) *Disk {
	t.Helper()
	d, e := New(most)
	if d == nil || e != api.OK {
		t.Fatal("New", most, d, e)
	}
	return d
}

// wants fails unless there is that error.
func wants(t *testing.T, what string, got, want api.Errno) {
	t.Helper()
	if got != want {
		t.Errorf("%s: error %d, not %d", what, got, want)
	}
}

// told is all that a disk tells of itself: each file as name=synced|unsynced, whatever the power.
func told(d *Disk) string {
	out := []string{"used", strconv.Itoa(d.Used())}
	for _, name := range d.List() {
		out = append(out, name+"="+strconv.Itoa(d.Size(name))+"/"+strconv.Itoa(d.Synced(name)))
		if b, e := d.Read(name); e == api.OK {
			out = append(out, strconv.Quote(string(b[:d.Synced(name)])+"|"+string(b[d.Synced(name):])))
		}
	}
	if d.Down() {
		out = append(out, "down")
	}
	return strings.Join(out, " ")
}

// tells fails unless that is all that the disk tells.
func tells(t *testing.T, what string, d *Disk, want string) {
	t.Helper()
	if got := told(d); got != want {
		t.Errorf("%s: %s, not %s", what, got, want)
	}
}

// filled gives a disk with the files a (xyz is safe, uv is not) and b (w is not).
func filled(t *testing.T) *Disk {
	t.Helper()
	d := newDisk(t, most)
	wants(t, "Append a", d.Append("a", []byte("xyz")), api.OK)
	wants(t, "Sync a", d.Sync("a"), api.OK)
	wants(t, "Append a", d.Append("a", []byte("uv")), api.OK)
	wants(t, "Append b", d.Append("b", []byte("w")), api.OK)
	tells(t, "filled", d, asFilled)
	return d
}

const asFilled = `used 6 a=5/3 "xyz|uv" b=1/0 "|w"`

// operations are one call of each that is an operation of a filled disk, refused by nothing but the power.
func operations() map[string]func(d *Disk) api.Errno {
	return map[string]func(d *Disk) api.Errno{
		"Append":     func(d *Disk) api.Errno { return d.Append("c", []byte("1")) },
		"Append end": func(d *Disk) api.Errno { return d.Append("a", []byte("1")) },
		"Append nil": func(d *Disk) api.Errno { return d.Append("a", nil) },
		"Sync":       func(d *Disk) api.Errno { return d.Sync("a") },
		"Rename":     func(d *Disk) api.Errno { return d.Rename("a", "c") },
		"Rename to":  func(d *Disk) api.Errno { return d.Rename("a", "b") },
		"Rename one": func(d *Disk) api.Errno { return d.Rename("a", "a") },
		"Remove":     func(d *Disk) api.Errno { return d.Remove("a") },
		"Cut":        func(d *Disk) api.Errno { return d.Cut("a", 4) },
		"Cut all":    func(d *Disk) api.Errno { return d.Cut("a", 0) },
		"Cut none":   func(d *Disk) api.Errno { return d.Cut("a", 5) },
	}
}

// refusals are calls that a filled disk refuses while it has its power, with their errors.
func refusals() map[string]func(d *Disk) (api.Errno, api.Errno) {
	big := make([]byte, most)
	return map[string]func(d *Disk) (api.Errno, api.Errno){
		"Append, no name":        func(d *Disk) (api.Errno, api.Errno) { return d.Append("", nil), api.ErrFile },
		"Append, a wrong name":   func(d *Disk) (api.Errno, api.Errno) { return d.Append("A", nil), api.ErrFile },
		"Append, both":           func(d *Disk) (api.Errno, api.Errno) { return d.Append("A", big), api.ErrFile },
		"Append, too much":       func(d *Disk) (api.Errno, api.Errno) { return d.Append("a", big), api.ErrFull },
		"Append, too much new":   func(d *Disk) (api.Errno, api.Errno) { return d.Append("c", big), api.ErrFull },
		"Sync of none":           func(d *Disk) (api.Errno, api.Errno) { return d.Sync("c"), api.ErrFile },
		"Sync of a wrong name":   func(d *Disk) (api.Errno, api.Errno) { return d.Sync("A"), api.ErrFile },
		"Rename of none":         func(d *Disk) (api.Errno, api.Errno) { return d.Rename("c", "a"), api.ErrFile },
		"Rename of none to it":   func(d *Disk) (api.Errno, api.Errno) { return d.Rename("c", "c"), api.ErrFile },
		"Rename to a wrong name": func(d *Disk) (api.Errno, api.Errno) { return d.Rename("a", "A"), api.ErrFile },
		"Rename to no name":      func(d *Disk) (api.Errno, api.Errno) { return d.Rename("a", ""), api.ErrFile },
		"Rename of both wrong":   func(d *Disk) (api.Errno, api.Errno) { return d.Rename("A", "A"), api.ErrFile },
		"Remove of none":         func(d *Disk) (api.Errno, api.Errno) { return d.Remove("c"), api.ErrFile },
		"Remove of a wrong name": func(d *Disk) (api.Errno, api.Errno) { return d.Remove("A"), api.ErrFile },
		"Cut of none":            func(d *Disk) (api.Errno, api.Errno) { return d.Cut("c", 0), api.ErrFile },
		"Cut of none, below":     func(d *Disk) (api.Errno, api.Errno) { return d.Cut("c", -1), api.ErrFile },
		"Cut below 0":            func(d *Disk) (api.Errno, api.Errno) { return d.Cut("a", -1), api.ErrArg },
		"Cut far below 0":        func(d *Disk) (api.Errno, api.Errno) { return d.Cut("a", math.MinInt), api.ErrArg },
		"Cut above":              func(d *Disk) (api.Errno, api.Errno) { return d.Cut("a", 6), api.ErrArg },
		"Cut above the other":    func(d *Disk) (api.Errno, api.Errno) { return d.Cut("b", 2), api.ErrArg },
		"Cut far above":          func(d *Disk) (api.Errno, api.Errno) { return d.Cut("a", math.MaxInt), api.ErrArg },
		"Read of none": func(d *Disk) (api.Errno, api.Errno) {
			b, e := d.Read("c")
			return e + api.Errno(len(b)), api.ErrFile
		},
		"Read of a wrong name": func(d *Disk) (api.Errno, api.Errno) {
			b, e := d.Read("A")
			return e + api.Errno(len(b)), api.ErrFile
		},
	}
}

// P2.1: how many bytes a disk may have.
func TestNew(t *testing.T) {
	for _, n := range []int{0, 1, 65536, api.MaxDisk - 1, api.MaxDisk} {
		tells(t, "a new disk of "+strconv.Itoa(n), newDisk(t, n), "used 0")
	}
	for _, n := range []int{-1, -2, math.MinInt, api.MaxDisk + 1, math.MaxInt} {
		if d, e := New(n); d != nil || e != api.ErrArg {
			t.Error("New", n, d, e)
		}
	}
}

// P2.1: a new disk is not armed, and is apart from all others.
func TestNewIsNotArmed(t *testing.T) {
	d, other := newDisk(t, most), newDisk(t, most)
	for range 100 {
		wants(t, "Append", d.Append("a", []byte("1")), api.OK)
		wants(t, "Sync", d.Sync("a"), api.OK)
	}
	tells(t, "another disk", other, "used 0")
}

// P2.1: bytes come behind each other, in files of their own.
func TestAppend(t *testing.T) {
	d := newDisk(t, most)
	for _, x := range []struct{ name, b, want string }{
		{"b", "xyz", `used 3 b=3/0 "|xyz"`},
		{"b", "", `used 3 b=3/0 "|xyz"`},
		{"b", "\x00\xff\n", `used 6 b=6/0 "|xyz\x00\xff\n"`},
		{"c", "", `used 6 b=6/0 "|xyz\x00\xff\n" c=0/0 "|"`},
		{"a", "u", `used 7 a=1/0 "|u" b=6/0 "|xyz\x00\xff\n" c=0/0 "|"`},
		{"c", "v", `used 8 a=1/0 "|u" b=6/0 "|xyz\x00\xff\n" c=1/0 "|v"`},
	} {
		wants(t, "Append "+x.name, d.Append(x.name, []byte(x.b)), api.OK)
		tells(t, "appended to "+x.name, d, x.want)
	}
	d = filled(t)
	wants(t, "Append a", d.Append("a", []byte("12")), api.OK)
	tells(t, "behind what is safe", d, `used 8 a=7/3 "xyz|uv12" b=1/0 "|w"`)
}

// P2.1: all files together have most bytes at most.
func TestAppendFull(t *testing.T) {
	d := newDisk(t, 5)
	wants(t, "all and one more", d.Append("a", make([]byte, 6)), api.ErrFull)
	tells(t, "refused", d, "used 0")
	wants(t, "some", d.Append("a", []byte("xyz")), api.OK)
	wants(t, "too much", d.Append("a", []byte("123")), api.ErrFull)
	wants(t, "too much elsewhere", d.Append("b", []byte("123")), api.ErrFull)
	wants(t, "the rest", d.Append("b", []byte("uv")), api.OK)
	wants(t, "nothing", d.Append("c", nil), api.OK)
	const full = `used 5 a=3/0 "|xyz" b=2/0 "|uv" c=0/0 "|"`
	tells(t, "full", d, full)
	for _, name := range []string{"a", "b", "c", "d"} {
		wants(t, "one more", d.Append(name, []byte("1")), api.ErrFull)
	}
	wants(t, "very much more", d.Append("a", make([]byte, api.MaxDisk)), api.ErrFull)
	tells(t, "full still", d, full)

	d = newDisk(t, 0)
	wants(t, "nothing of 0", d.Append("a", nil), api.OK)
	wants(t, "one of 0", d.Append("a", []byte("1")), api.ErrFull)
	tells(t, "a disk of 0", d, `used 0 a=0/0 "|"`)

	d = newDisk(t, api.MaxDisk)
	wants(t, "one more than all", d.Append("a", make([]byte, api.MaxDisk+1)), api.ErrFull)
	wants(t, "all at once", d.Append("a", make([]byte, api.MaxDisk)), api.OK)
	wants(t, "one more", d.Append("a", []byte("1")), api.ErrFull)
	if d.Used() != api.MaxDisk || d.Size("a") != api.MaxDisk {
		t.Error(d.Used(), d.Size("a"))
	}
}

// P2.1: bytes that are gone make room for others.
func TestRoomAgain(t *testing.T) {
	for what, gone := range map[string]func(d *Disk) api.Errno{
		"Remove": func(d *Disk) api.Errno { return d.Remove("a") },
		"Rename": func(d *Disk) api.Errno { return d.Rename("b", "a") },
		"Cut":    func(d *Disk) api.Errno { return d.Cut("a", 0) },
		"Crash":  func(d *Disk) api.Errno { d.Crash([]int{0, 9}); return api.OK },
	} {
		d := newDisk(t, 7)
		wants(t, "Append a", d.Append("a", []byte("xyz")), api.OK)
		wants(t, "Append b", d.Append("b", []byte("1234")), api.OK)
		wants(t, "one more", d.Append("b", []byte("1")), api.ErrFull)
		wants(t, what, gone(d), api.OK)
		if d.Used() != 4 {
			t.Error(what, told(d))
		}
		wants(t, what+", four more", d.Append("c", make([]byte, 4)), api.ErrFull)
		wants(t, what+", three more", d.Append("c", make([]byte, 3)), api.OK)
	}
}

// P2.1: there are MaxFiles files at most.
func TestAppendManyFiles(t *testing.T) {
	d := newDisk(t, most)
	for i := range api.MaxFiles {
		wants(t, "a new file", d.Append("f"+strconv.Itoa(i), nil), api.OK)
	}
	wants(t, "one file more", d.Append("g", nil), api.ErrFull)
	wants(t, "an old file", d.Append("f0", []byte("1")), api.OK)
	wants(t, "another name", d.Rename("f0", "g"), api.OK)
	wants(t, "one file more", d.Append("f0", nil), api.ErrFull)
	if n := len(d.List()); n != api.MaxFiles {
		t.Error(n)
	}
	wants(t, "one file less", d.Remove("g"), api.OK)
	wants(t, "a file again", d.Append("f0", nil), api.OK)
	wants(t, "one file more", d.Append("g", nil), api.ErrFull)
	wants(t, "one name in another's place", d.Rename("f0", "f1"), api.OK)
	wants(t, "a file again", d.Append("g", nil), api.OK)
	wants(t, "one file more", d.Append("h", nil), api.ErrFull)
}

// rightName is as the chapter's words have it.
func rightName(name string) bool {
	for _, x := range []byte(name) {
		if !strings.Contains("abcdefghijklmnopqrstuvwxyz0123456789.-", string(rune(x))) {
			return false
		}
	}
	return len(name) >= 1 && len(name) <= 40
}

// P2.1: which names are right, of Append and of Rename.
func TestNames(t *testing.T) {
	names := []string{"", "a", "-", ".", "..", "0", "manifest.new", "s10", "a b", "a/b", "ä", "aä", "a\x00", "a_"}
	for size := range 50 {
		names = append(names, strings.Repeat("z", size))
	}
	for x := range 256 {
		c := string([]byte{byte(x)})
		names = append(names, c, c+"a", "a"+c, "a"+c+"a", strings.Repeat("9", 39)+c)
	}
	for _, name := range names {
		want := api.ErrFile
		if rightName(name) {
			want = api.OK
		}
		d := newDisk(t, most)
		wants(t, "Append "+strconv.Quote(name), d.Append(name, []byte("1")), want)
		if (len(d.List()) == 1) != rightName(name) {
			t.Error(strconv.Quote(name), d.List())
		}
		d = newDisk(t, most)
		wants(t, "Append", d.Append("from", []byte("1")), api.OK)
		wants(t, "Rename to "+strconv.Quote(name), d.Rename("from", name), want)
		if !rightName(name) {
			tells(t, "not renamed", d, `used 1 from=1/0 "|1"`)
		} else if !slices.Equal(d.List(), []string{name}) {
			t.Error(strconv.Quote(name), d.List())
		}
	}
}

// P2.1: all bytes of the file, and of no other one, are safe.
func TestSync(t *testing.T) {
	d := filled(t)
	wants(t, "Sync b", d.Sync("b"), api.OK)
	tells(t, "b is safe", d, `used 6 a=5/3 "xyz|uv" b=1/1 "w|"`)
	wants(t, "Sync a", d.Sync("a"), api.OK)
	tells(t, "both are safe", d, `used 6 a=5/5 "xyzuv|" b=1/1 "w|"`)
	wants(t, "Sync a again", d.Sync("a"), api.OK)
	tells(t, "both are safe still", d, `used 6 a=5/5 "xyzuv|" b=1/1 "w|"`)
	wants(t, "Append c", d.Append("c", nil), api.OK)
	wants(t, "Sync c", d.Sync("c"), api.OK)
	tells(t, "c is empty", d, `used 6 a=5/5 "xyzuv|" b=1/1 "w|" c=0/0 "|"`)
}

// P2.1: the file has the other name, with its bytes, the safe ones and the others.
func TestRename(t *testing.T) {
	for _, x := range []struct{ from, to, want string }{
		{"a", "c", `used 6 b=1/0 "|w" c=5/3 "xyz|uv"`},
		{"b", "0", `used 6 0=1/0 "|w" a=5/3 "xyz|uv"`},
		{"a", "b", `used 5 b=5/3 "xyz|uv"`},
		{"b", "a", `used 1 a=1/0 "|w"`},
		{"a", "a", asFilled},
		{"b", "b", asFilled},
	} {
		d := filled(t)
		wants(t, "Rename "+x.from+" "+x.to, d.Rename(x.from, x.to), api.OK)
		tells(t, "renamed "+x.from+" "+x.to, d, x.want)
		if x.from != x.to {
			wants(t, "Sync "+x.from, d.Sync(x.from), api.ErrFile)
		}
	}
	d := filled(t)
	wants(t, "Rename a c", d.Rename("a", "c"), api.OK)
	wants(t, "Append a", d.Append("a", []byte("12")), api.OK)
	wants(t, "Append c", d.Append("c", []byte("3")), api.OK)
	tells(t, "the old name again", d, `used 9 a=2/0 "|12" b=1/0 "|w" c=6/3 "xyz|uv3"`)
}

// P2.1: the file is gone, and a new one of its name has nothing of it.
func TestRemove(t *testing.T) {
	d := filled(t)
	wants(t, "Remove a", d.Remove("a"), api.OK)
	tells(t, "removed", d, `used 1 b=1/0 "|w"`)
	wants(t, "Remove a again", d.Remove("a"), api.ErrFile)
	wants(t, "Append a", d.Append("a", []byte("12")), api.OK)
	tells(t, "a new one", d, `used 3 a=2/0 "|12" b=1/0 "|w"`)
	wants(t, "Remove b", d.Remove("b"), api.OK)
	wants(t, "Remove a", d.Remove("a"), api.OK)
	tells(t, "all removed", d, "used 0")
}

// P2.1: the first bytes are left, and are safe.
func TestCut(t *testing.T) {
	for n, want := range []string{
		`used 1 a=0/0 "|" b=1/0 "|w"`,
		`used 2 a=1/1 "x|" b=1/0 "|w"`,
		`used 3 a=2/2 "xy|" b=1/0 "|w"`,
		`used 4 a=3/3 "xyz|" b=1/0 "|w"`,
		`used 5 a=4/4 "xyzu|" b=1/0 "|w"`,
		`used 6 a=5/5 "xyzuv|" b=1/0 "|w"`,
	} {
		d := filled(t)
		wants(t, "Cut", d.Cut("a", n), api.OK)
		tells(t, "cut", d, want)
		wants(t, "Append", d.Append("a", []byte("1")), api.OK)
		wants(t, "Cut above", d.Cut("a", n+2), api.ErrArg)
		d.Crash(nil)
		if b, e := d.Read("a"); string(b) != "xyzuv"[:n] || e != api.OK {
			t.Error("crashed behind Cut", n, b, e)
		}
	}
	d := filled(t)
	wants(t, "Append c", d.Append("c", nil), api.OK)
	wants(t, "Cut c", d.Cut("c", 0), api.OK)
	wants(t, "Cut c above", d.Cut("c", 1), api.ErrArg)
}

// P2.1, P2.2: what is gone takes no memory any more.
func TestGoneTakesNoMemory(t *testing.T) {
	for what, gone := range map[string]func(d *Disk){
		"Cut":   func(d *Disk) { d.Cut("a", 0) },
		"Crash": func(d *Disk) { d.Crash(nil) },
	} {
		d := newDisk(t, api.MaxDisk)
		wants(t, "Append", d.Append("a", make([]byte, 100000)), api.OK)
		gone(d)
		if n := cap(d.files["a"].bytes); n > 100 {
			t.Error(what, "leaves memory for", n)
		}
	}
}

// P2.1: what is refused changes nothing.
func TestRefused(t *testing.T) {
	for what, call := range refusals() {
		d := filled(t)
		got, want := call(d)
		wants(t, what, got, want)
		tells(t, what, d, asFilled)
	}
}

// P2.1: Read tells the bytes, of which none are special.
func TestRead(t *testing.T) {
	d := newDisk(t, most)
	all := make([]byte, 256)
	for i := range all {
		all[i] = byte(i)
	}
	wants(t, "Append", d.Append("a", all), api.OK)
	wants(t, "Append", d.Append("b", nil), api.OK)
	if b, e := d.Read("a"); !slices.Equal(b, all) || e != api.OK {
		t.Error(b, e)
	}
	if b, e := d.Read("b"); len(b) != 0 || e != api.OK {
		t.Error(b, e)
	}
}

// P2.1, R3: what is handed in is neither changed nor kept.
func TestHandedInStays(t *testing.T) {
	d := newDisk(t, most)
	all := []byte("abc12345")
	b := all[:3]
	for _, name := range []string{"a", "b"} {
		wants(t, "Append", d.Append(name, b), api.OK)
		wants(t, "Append", d.Append(name, []byte("xyz")), api.OK)
	}
	if string(all) != "abc12345" {
		t.Error("handed in:", string(all))
	}
	copy(all, "????????")
	tells(t, "written over", d, `used 12 a=6/0 "|abcxyz" b=6/0 "|abcxyz"`)

	keeps := []int{9, -9, 9}[:2]
	d.Crash(keeps)
	if !slices.Equal(keeps[:3], []int{9, -9, 9}) {
		t.Error("handed in:", keeps)
	}
}

// P2.1, R3: what is handed out is new, with its spare room.
func TestHandedOutIsNew(t *testing.T) {
	d := filled(t)
	wants(t, "Append", d.Append("c", make([]byte, 100)), api.OK)
	wants(t, "Cut", d.Cut("c", 1), api.OK)
	was := told(d)
	for _, name := range d.List() {
		one, _ := d.Read(name)
		other, _ := d.Read(name)
		kept := string(other)
		whole := one[:cap(one)]
		for i := range whole {
			whole[i] ^= 255
		}
		tells(t, "written over "+name, d, was)
		if string(other) != kept {
			t.Error(name, "shares its answers")
		}
		wants(t, "Append", d.Append(name, []byte("0")), api.OK)
		if string(other) != kept {
			t.Error(name, "is shared by an answer")
		}
		was = told(d)
	}
	one, other := d.List(), d.List()
	for i := range one {
		one[i] = "?"
	}
	if !slices.Equal(other, []string{"a", "b", "c"}) || !slices.Equal(d.List(), other) {
		t.Error(other, d.List())
	}
}

// P2.2: names come by their bytes, rising, however the files came.
func TestList(t *testing.T) {
	d := newDisk(t, most)
	if l := d.List(); len(l) != 0 {
		t.Error(l)
	}
	for _, name := range []string{"s10", "s9", "z", "manifest.new", "a.b", "manifest", "a-b", "ab", "a", "a0", "0", "-", "."} {
		wants(t, "Append", d.Append(name, nil), api.OK)
	}
	want := []string{"-", ".", "0", "a", "a-b", "a.b", "a0", "ab", "manifest", "manifest.new", "s10", "s9", "z"}
	if l := d.List(); !slices.Equal(l, want) {
		t.Error(l)
	}
}

// P2.2: of no file all is 0.
func TestSizesOfNone(t *testing.T) {
	d := filled(t)
	for _, name := range []string{"", "c", "A", "aa", strings.Repeat("a", 41)} {
		if n, safe := d.Size(name), d.Synced(name); n != 0 || safe != 0 {
			t.Error(name, n, safe)
		}
	}
	tells(t, "asked", d, asFilled)
}

// P2.1, P2.2, R5: a disk that New did not make.
func TestNoDisk(t *testing.T) {
	for _, d := range []*Disk{nil, {}} {
		read := func(d *Disk) api.Errno {
			b, e := d.Read("a")
			return e + api.Errno(len(b))
		}
		for range 2 {
			wants(t, "Append", d.Append("a", []byte("1")), api.ErrNil)
			wants(t, "Append, a wrong name", d.Append("A", nil), api.ErrNil)
			wants(t, "Sync", d.Sync("a"), api.ErrNil)
			wants(t, "Rename", d.Rename("a", "b"), api.ErrNil)
			wants(t, "Rename, wrong names", d.Rename("", "A"), api.ErrNil)
			wants(t, "Remove", d.Remove("a"), api.ErrNil)
			wants(t, "Cut", d.Cut("a", 0), api.ErrNil)
			wants(t, "Cut below 0", d.Cut("a", -1), api.ErrNil)
			wants(t, "Read", read(d), api.ErrNil)
			tells(t, "no disk", d, "used 0")
			if d.Size("a") != 0 || d.Synced("a") != 0 {
				t.Error(d.Size("a"), d.Synced("a"))
			}
			d.Arm(0)
			d.Crash([]int{1})
		}
	}
}

// The chapter's examples.
func TestExamples(t *testing.T) {
	d := filled(t)
	if d.Size("a") != 5 || d.Synced("a") != 3 {
		t.Error(told(d))
	}
	d.Crash([]int{1})
	tells(t, "crashed", d, `used 4 a=4/4 "xyzu|" b=0/0 "|"`)
	wants(t, "Rename", d.Rename("a", "b"), api.OK)
	tells(t, "renamed", d, `used 4 b=4/4 "xyzu|"`)
	d.Arm(1)
	wants(t, "Sync", d.Sync("b"), api.OK)
	wants(t, "Remove", d.Remove("b"), api.ErrDown)
	if b, e := d.Read("b"); len(b) != 0 || e != api.ErrDown {
		t.Error(b, e)
	}
	d.Crash(nil)
	tells(t, "the power is there again", d, `used 4 b=4/4 "xyzu|"`)
	wants(t, "Append", d.Append("A", []byte("1")), api.ErrFile)
}
