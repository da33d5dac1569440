package disk

import (
	"math"
	"slices"
	"strconv"
	"strings"
	"testing"

	"amanuensis/api"
)

// P2.1, P2.2: an armed disk does so many operations, and none more.
func TestArm(t *testing.T) {
	for what, call := range operations() {
		for n := range 4 {
			d := filled(t)
			d.Arm(n)
			for range n {
				wants(t, "ahead", d.Sync("b"), api.OK)
			}
			was := told(d)
			wants(t, what, call(d), api.ErrDown)
			tells(t, what, d, downed(was))
		}
		d := filled(t)
		d.Arm(1)
		wants(t, what, call(d), api.OK)
		wants(t, what+", and one more", d.Append("b", nil), api.ErrDown)
		if !d.Down() {
			t.Error(what, "takes none from the number")
		}
	}
}

// downed is what a disk tells that told was, when its power has failed: sizes, no bytes.
func downed(was string) string {
	words := slices.DeleteFunc(strings.Split(was, " "), func(word string) bool { return word[0] == '"' })
	return strings.Join(append(words, "down"), " ")
}

// P2.1: what is refused, and what is no operation, takes none from the number, and finds no power failed.
func TestRefusedTakesNone(t *testing.T) {
	for what, call := range refusals() {
		d := filled(t)
		d.Arm(0)
		got, want := call(d)
		wants(t, what, got, want)
		tells(t, what, d, asFilled)
		d.Arm(1)
		call(d)
		wants(t, what+", and an operation", d.Sync("b"), api.OK)
		wants(t, what+", and one more", d.Sync("b"), api.ErrDown)
	}
	d := newDisk(t, most)
	for i := range api.MaxFiles {
		wants(t, "a new file", d.Append("f"+strconv.Itoa(i), nil), api.OK)
	}
	d.Arm(0)
	wants(t, "one file more", d.Append("g", nil), api.ErrFull)
	if b, e := d.Read("f0"); len(b) != 0 || e != api.OK {
		t.Error(b, e)
	}
	if d.Down() {
		t.Error("down")
	}
	wants(t, "an old file", d.Append("f0", nil), api.ErrDown)
}

// P2.1: a disk that is down refuses all, whatever else is wrong.
func TestDownRefusesAll(t *testing.T) {
	d := filled(t)
	d.Arm(0)
	wants(t, "Sync", d.Sync("a"), api.ErrDown)
	tells(t, "down", d, downed(asFilled))
	for range 2 {
		for what, call := range operations() {
			wants(t, what, call(d), api.ErrDown)
		}
		for what, call := range refusals() {
			got, _ := call(d)
			wants(t, what, got, api.ErrDown)
		}
		if b, e := d.Read("a"); len(b) != 0 || e != api.ErrDown {
			t.Error(b, e)
		}
		tells(t, "down still", d, downed(asFilled))
		d.Arm(7)
	}
	d.Crash([]int{2, 1})
	tells(t, "the power is there again", d, `used 6 a=5/5 "xyzuv|" b=1/1 "w|"`)
}

// P2.2: the last number counts; one below 0 is 0.
func TestArmAgain(t *testing.T) {
	for _, x := range []struct {
		numbers []int
		want    int
	}{
		{[]int{0}, 0}, {[]int{-1}, 0}, {[]int{math.MinInt}, 0}, {[]int{3, -1}, 0}, {[]int{0, 2}, 2}, {[]int{5, 1}, 1}, {[]int{math.MaxInt, 4}, 4},
	} {
		d := newDisk(t, most)
		for _, n := range x.numbers {
			d.Arm(n)
		}
		done := 0
		for done < 20 && d.Append("a", nil) == api.OK {
			done++
		}
		if done != x.want || !d.Down() {
			t.Error(x.numbers, done, d.Down())
		}
	}
	d := newDisk(t, most)
	d.Arm(math.MaxInt)
	for range 1000 {
		wants(t, "Append", d.Append("a", nil), api.OK)
	}
}

// P2.1, P2.2: behind a crash nothing is armed: not by the number of before, nor by one that came while it was down.
func TestCrashDisarms(t *testing.T) {
	d := newDisk(t, most)
	works := func(what string) {
		t.Helper()
		for range 20 {
			wants(t, what, d.Append("a", nil), api.OK)
		}
		if d.Down() {
			t.Error(what, "down")
		}
	}
	d.Arm(3)
	d.Crash(nil)
	works("armed, and crashed")
	d.Arm(1)
	wants(t, "Append", d.Append("a", nil), api.OK)
	wants(t, "Append", d.Append("a", nil), api.ErrDown)
	d.Crash(nil)
	works("down, and crashed")
	d.Arm(0)
	wants(t, "Append", d.Append("a", nil), api.ErrDown)
	d.Arm(5)
	d.Crash(nil)
	works("armed while it was down")
	d.Arm(0)
	wants(t, "Append", d.Append("a", nil), api.ErrDown)
	d.Crash(nil)
	d.Crash(nil)
	works("crashed twice")
}

// P2.2: what a crash leaves of the files a, b, c.
func TestCrash(t *testing.T) {
	for _, x := range []struct {
		keeps []int
		want  string
	}{
		{nil, `used 3 a=3/3 "xyz|" b=0/0 "|" c=0/0 "|"`},
		{[]int{}, `used 3 a=3/3 "xyz|" b=0/0 "|" c=0/0 "|"`},
		{[]int{1}, `used 4 a=4/4 "xyzu|" b=0/0 "|" c=0/0 "|"`},
		{[]int{2, 1}, `used 6 a=5/5 "xyzuv|" b=1/1 "w|" c=0/0 "|"`},
		{[]int{3, 0, 2}, `used 7 a=5/5 "xyzuv|" b=0/0 "|" c=2/2 "12|"`},
		{[]int{0, 2, 4}, `used 8 a=3/3 "xyz|" b=1/1 "w|" c=4/4 "1234|"`},
		{[]int{-1, -2, -3, 5}, `used 3 a=3/3 "xyz|" b=0/0 "|" c=0/0 "|"`},
		{[]int{math.MinInt, math.MaxInt, math.MinInt}, `used 4 a=3/3 "xyz|" b=1/1 "w|" c=0/0 "|"`},
		{[]int{math.MaxInt, math.MaxInt, math.MaxInt, math.MaxInt}, `used 10 a=5/5 "xyzuv|" b=1/1 "w|" c=4/4 "1234|"`},
	} {
		for _, down := range []bool{false, true} {
			d := filled(t)
			wants(t, "Append c", d.Append("c", []byte("1234")), api.OK)
			if down {
				d.Arm(0)
				wants(t, "Sync c", d.Sync("c"), api.ErrDown)
			}
			d.Crash(x.keeps)
			tells(t, "crashed", d, x.want)
			d.Crash(nil)
			tells(t, "crashed again", d, x.want)
		}
	}
	d := newDisk(t, most)
	d.Crash([]int{1, 2})
	tells(t, "a new disk", d, "used 0")
}

// P2.2: which file is the i-th hangs on the names, not on when they came.
func TestCrashGoesByNames(t *testing.T) {
	d := newDisk(t, most)
	for _, name := range []string{"s9", "s10", "m", "-"} {
		wants(t, "Append", d.Append(name, []byte("1234")), api.OK)
	}
	wants(t, "Rename", d.Rename("m", "z"), api.OK)
	d.Crash([]int{0, 1, 2, 3})
	tells(t, "crashed", d, `used 6 -=0/0 "|" s10=1/1 "1|" s9=2/2 "12|" z=3/3 "123|"`)
}

// plain is a disk as the chapter's words have it, file by file in a list.
type plain struct {
	files []plainFile
	most  int
	armed int // below 0: not armed
	down  bool
}

type plainFile struct {
	name   string
	bytes  string
	synced int
}

func (p *plain) place(name string) int {
	return slices.IndexFunc(p.files, func(f plainFile) bool { return f.name == name })
}

func (p *plain) used() int {
	n := 0
	for _, f := range p.files {
		n += len(f.bytes)
	}
	return n
}

func (p *plain) fails() bool {
	p.down = p.armed == 0
	p.armed = max(p.armed-1, -1)
	return p.down
}

func (p *plain) append(name, b string) api.Errno {
	i := p.place(name)
	switch {
	case p.down:
		return api.ErrDown
	case !rightName(name):
		return api.ErrFile
	case p.used()+len(b) > p.most || i < 0 && len(p.files) == 200:
		return api.ErrFull
	case p.fails():
		return api.ErrDown
	}
	if i < 0 {
		p.files = append(p.files, plainFile{name: name, bytes: b})
	} else {
		p.files[i].bytes += b
	}
	return api.OK
}

func (p *plain) sync(name string) api.Errno {
	i := p.place(name)
	switch {
	case p.down:
		return api.ErrDown
	case i < 0:
		return api.ErrFile
	case p.fails():
		return api.ErrDown
	}
	p.files[i].synced = len(p.files[i].bytes)
	return api.OK
}

func (p *plain) rename(from, to string) api.Errno {
	i := p.place(from)
	switch {
	case p.down:
		return api.ErrDown
	case i < 0 || !rightName(to):
		return api.ErrFile
	case p.fails():
		return api.ErrDown
	}
	if from != to {
		p.files[i].name = ""
		p.files = slices.DeleteFunc(p.files, func(f plainFile) bool { return f.name == to })
		p.files[p.place("")].name = to
	}
	return api.OK
}

func (p *plain) remove(name string) api.Errno {
	i := p.place(name)
	switch {
	case p.down:
		return api.ErrDown
	case i < 0:
		return api.ErrFile
	case p.fails():
		return api.ErrDown
	}
	p.files = slices.Delete(p.files, i, i+1)
	return api.OK
}

func (p *plain) cut(name string, n int) api.Errno {
	i := p.place(name)
	switch {
	case p.down:
		return api.ErrDown
	case i < 0:
		return api.ErrFile
	case n < 0 || n > len(p.files[i].bytes):
		return api.ErrArg
	case p.fails():
		return api.ErrDown
	}
	p.files[i].bytes, p.files[i].synced = p.files[i].bytes[:n], n
	return api.OK
}

func (p *plain) crash(keeps []int) {
	p.sort()
	for i, f := range p.files {
		left := f.synced
		for left < len(f.bytes) && i < len(keeps) && left-f.synced < keeps[i] {
			left++
		}
		p.files[i].bytes, p.files[i].synced = f.bytes[:left], left
	}
	p.armed, p.down = -1, false
}

func (p *plain) sort() {
	slices.SortFunc(p.files, func(f, g plainFile) int {
		if f.name < g.name {
			return -1
		}
		return 1
	})
}

func (p *plain) told() string {
	p.sort()
	out := "used " + strconv.Itoa(p.used())
	for _, f := range p.files {
		out += " " + f.name + "=" + strconv.Itoa(len(f.bytes)) + "/" + strconv.Itoa(f.synced)
		if !p.down {
			out += " " + strconv.Quote(f.bytes[:f.synced]+"|"+f.bytes[f.synced:])
		}
	}
	if p.down {
		out += " down"
	}
	return out
}

// P2.1, P2.2: many calls, one behind the other, are as the words have them.
func TestAsPlain(t *testing.T) {
	names := []string{"a", "b", "c", "s10", "s9", "manifest", "A", ""}
	for seed := range 60 {
		seen := uint32(seed)
		next := func(n int) int {
			seen = seen*1664525 + 1013904223
			return int(seen>>8) % n
		}
		name := func() string { return names[min(next(20)%9, 7)] }
		d, p := newDisk(t, 40), &plain{most: 40, armed: -1}
		for range 400 {
			var got, want api.Errno
			what := next(14)
			switch {
			case what < 5:
				one, b := name(), "0123456789"[:next(11)]
				got, want = d.Append(one, []byte(b)), p.append(one, b)
			case what < 7:
				one := name()
				got, want = d.Sync(one), p.sync(one)
			case what < 9:
				one, other := name(), name()
				got, want = d.Rename(one, other), p.rename(one, other)
			case what < 10:
				one := name()
				got, want = d.Remove(one), p.remove(one)
			case what < 12:
				one, n := name(), next(20)-2
				got, want = d.Cut(one, n), p.cut(one, n)
			case what < 13:
				n := next(24) - 2
				d.Arm(n)
				if !p.down {
					p.armed = max(n, 0)
				}
			default:
				keeps := []int{next(9) - 2, next(9) - 2, next(9) - 2, next(9) - 2}[:next(5)]
				d.Crash(keeps)
				p.crash(keeps)
			}
			if got != want || told(d) != p.told() {
				t.Fatal(seed, what, got, want, told(d), p.told())
			}
		}
	}
}

// replaced puts new bytes in the place of old ones, as P2.3 bids: synced ahead of Rename, or not.
func replaced(d *Disk, safe bool) api.Errno {
	e := d.Append("new", []byte("newer"))
	if e == api.OK && safe {
		e = d.Sync("new")
	}
	if e == api.OK {
		e = d.Rename("new", "name")
	}
	return e
}

// P2.3: what is synced is there behind a crash at any operation, and of the rest a beginning.
func TestSyncedIsThere(t *testing.T) {
	const text = "abcdefghijkl"
	for n := range 13 {
		for keep := range 6 {
			d := newDisk(t, most)
			d.Arm(n)
			safe, all := 0, 0
			for i := 0; i < len(text) && !d.Down(); i += 2 {
				if d.Append("a", []byte(text[i:i+2])) == api.OK {
					all = i + 2
				}
				if i%4 == 2 && d.Sync("a") == api.OK {
					safe = all
				}
			}
			d.Crash([]int{keep})
			left := min(safe+keep, all)
			b, _ := d.Read("a")
			if string(b) != text[:left] || d.Synced("a") != left {
				t.Error(n, keep, string(b), safe, all)
			}
		}
	}
}

// P2.3: a name has the one's bytes or the other's, whenever the power fails; of those that were not synced perhaps but some.
func TestRenameIsOneOrTheOther(t *testing.T) {
	for n := range 5 {
		for keep := range 8 {
			for _, safe := range []bool{true, false} {
				d := newDisk(t, most)
				wants(t, "Append", d.Append("name", []byte("old")), api.OK)
				wants(t, "Sync", d.Sync("name"), api.OK)
				d.Arm(n)
				e := replaced(d, safe)
				d.Crash([]int{keep, keep})
				want := "old"
				if e == api.OK && safe {
					want = "newer"
				} else if e == api.OK {
					want = "newer"[:min(keep, 5)]
				}
				if b, _ := d.Read("name"); string(b) != want || d.Synced("name") != len(want) {
					t.Error(n, keep, safe, string(b), want)
				}
				if e == api.OK && d.Size("new") != 0 {
					t.Error(n, keep, safe, told(d))
				}
			}
		}
	}
}
