package seglog

import (
	"slices"
	"strconv"
	"testing"

	"amanuensis/api"
	"amanuensis/disk"
	"amanuensis/segment"
)

// toldBy gives the events of the files that the disk's manifest names, and fails if these are no log.
func toldBy(t *testing.T, d *disk.Disk) []api.Event {
	t.Helper()
	b, e := d.Read("manifest")
	if e == api.ErrFile {
		return nil
	}
	wants(t, "reading the manifest", e, api.OK)
	pieces, e := Listed(b)
	wants(t, "Listed", e, api.OK)
	var out []api.Event
	for i, p := range pieces {
		b, e := d.Read(p.Name)
		wants(t, "reading "+p.Name, e, api.OK)
		first, l, whole := toldByOne(t, b, p.Dense)
		if first != p.First || i < len(pieces)-1 && (len(l) != p.Count || !whole) {
			t.Error(p, "tells", first, len(l), whole)
		}
		out = append(out, l...)
	}
	return out
}

// toldByOne gives the number and the events of one file, and whether all its bytes are of these.
func toldByOne(t *testing.T, b []byte, dense bool) (int, []api.Event, bool) {
	t.Helper()
	if dense {
		first, l, e := segment.Unpack(b)
		wants(t, "Unpack", e, api.OK)
		return first, l, true
	}
	first, l, end, e := segment.Scan(b)
	wants(t, "Scan", e, api.OK)
	return first, l, end == len(b)
}

// life is what was done to a log: events that were appended (the last ones perhaps in vain), and how many of them were acknowledged.
type life struct {
	all   []api.Event
	acked int
}

// live appends to a log of that disk, syncs now and then, and puts a denser file in the place of its sealed ones, till all is done or the log is over.
func live(d *disk.Disk, salt int) life {
	var out life
	l, e := Create(d, 64)
	if e != api.OK {
		return out
	}
	for i := range 24 {
		more := some(1+(i+salt)%5, i*salt)
		out.all = append(out.all, more...)
		e := l.Append(more...)
		if e == api.OK && (i+salt)%6 == 0 {
			e = l.Sync()
		}
		if e == api.OK && i%8 == 7 {
			e = merge(l, out.all)
		}
		out.acked = l.Acked()
		if e != api.OK {
			break
		}
	}
	return out
}

// merge swaps the log's sealed pieces for one file of the denser coding.
func merge(l *Log, all []api.Event) api.Errno {
	pieces := l.Pieces()
	n := pieces[len(pieces)-1].First
	if n == 0 {
		return api.OK
	}
	b, _ := segment.Pack(0, all[:n])
	one := api.Piece{Name: "d" + strconv.Itoa(n), Count: n, Dense: true}
	return tried(
		func() api.Errno { return lay(l.Disk(), one.Name, b) },
		func() api.Errno { return l.Swap([]api.Piece{one}) },
	)
}

// kept fails unless the disk tells a beginning of what was appended, and all that was acknowledged.
func kept(t *testing.T, what string, d *disk.Disk, was life) {
	t.Helper()
	told := toldBy(t, d)
	if len(told) < was.acked || len(told) > len(was.all) || !slices.Equal(told, was.all[:len(told)]) {
		t.Errorf("%s: %d events told, %d acknowledged, of %d", what, len(told), was.acked, len(was.all))
	}
}

// keepings are how much of what is not safe a crash leaves.
func keepings() [][]int {
	out := [][]int{nil, slices.Repeat([]int{10000}, 99)}
	for n := 1; n < 40; n += 3 {
		out = append(out, slices.Repeat([]int{n}, 99), []int{n, 0, n * 2, 3, n / 2, 50})
	}
	return out
}

// P5.5: a crash at each operation, with any bytes kept.
func TestCrashAnywhere(t *testing.T) {
	for salt := range 4 {
		acked, n := 0, 0
		for done := false; !done; n++ {
			for _, keeps := range keepings() {
				d := newDisk(t, 65536)
				d.Arm(n)
				was := live(d, salt)
				done = !d.Down()
				acked = max(acked, was.acked)
				d.Crash(keeps)
				kept(t, "behind "+strconv.Itoa(n), d, was)
			}
		}
		if n < 50 || acked < 40 {
			t.Error("but", n, "operations,", acked, "acknowledged")
		}
	}
}

// P5.5: a disk of each size, and a crash when it is full.
func TestCrashOfAFullDisk(t *testing.T) {
	for most := 0; most < 1500; most += 3 {
		for _, keeps := range keepings()[:4] {
			d := newDisk(t, most)
			was := live(d, most%7)
			kept(t, "full at "+strconv.Itoa(most), d, was)
			d.Crash(keeps)
			kept(t, "crashed, full at "+strconv.Itoa(most), d, was)
		}
	}
}

// P5.5: a log that is resumed behind a crash goes on, and a crash of that one, too, loses nothing that was acknowledged.
func TestCrashOfALogThatIsResumed(t *testing.T) {
	for n := range 60 {
		d := newDisk(t, 65536)
		d.Arm(40)
		live(d, 2)
		d.Crash([]int{7, 7, 7, 7, 7, 7, 7})
		was := life{all: toldBy(t, d)}
		was.acked = len(was.all)
		b, _ := d.Read("manifest")
		pieces, _ := Listed(b)
		open := pieces[len(pieces)-1].Name
		b, _ = d.Read(open)
		_, _, end, _ := segment.Scan(b)
		wants(t, "Cut", d.Cut(open, end), api.OK)
		d.Arm(n)
		if l, e := Resume(d, 64, pieces, len(was.all)); e == api.OK {
			for i := range 20 {
				more := some(3, i)
				was.all = append(was.all, more...)
				e := l.Append(more...)
				was.acked = l.Acked()
				if e != api.OK {
					break
				}
			}
		}
		d.Crash([]int{n, n, n, n, n, n, n, n, n, n})
		kept(t, "behind "+strconv.Itoa(n), d, was)
	}
}
