package compact

import (
	"slices"
	"strconv"
	"testing"

	"amanuensis/api"
	"amanuensis/disk"
	"amanuensis/recover"
	"amanuensis/seglog"
)

// life is what was done to a log: events that were appended (the last ones perhaps in vain), how many of them were acknowledged, how many pieces were merged.
type life struct {
	all    []api.Event
	acked  int
	merged int
}

// live opens the disk's log and appends to it, syncs and compacts now and then, till all is done or an error is told.
func live(d *disk.Disk, was life, salt int) life {
	l, events, e := recover.Open(d, 64)
	if e != api.OK {
		return was
	}
	out := life{all: events, acked: len(events), merged: was.merged}
	for i := range 18 {
		more := some(1+(i+salt)%5, i*salt)
		out.all = append(out.all, more...)
		e := l.Append(more...)
		if e == api.OK && (i+salt)%6 == 0 {
			e = l.Sync()
		}
		if e == api.OK && (i+salt)%4 == 3 {
			n := 0
			n, e = Compact(l)
			out.merged += n
		}
		out.acked = l.Acked()
		if e != api.OK {
			break
		}
	}
	return out
}

// kept fails unless the disk tells a beginning of what was appended, and all that was acknowledged, and gives what it tells.
func kept(t *testing.T, what string, d *disk.Disk, was life) life {
	t.Helper()
	told, _, e := recover.Scan(d)
	wants(t, what, e, api.OK)
	if len(told) < was.acked || len(told) > len(was.all) || !slices.Equal(told, was.all[:len(told)]) {
		t.Errorf("%s: %d events told, %d acknowledged, of %d", what, len(told), was.acked, len(was.all))
	}
	return life{all: told, acked: len(told), merged: was.merged}
}

// keepings are how much of what is not safe a crash leaves.
func keepings() [][]int {
	out := [][]int{nil, slices.Repeat([]int{10000}, 99)}
	for n := 1; n < 40; n += 4 {
		out = append(out, slices.Repeat([]int{n}, 99), []int{n, 0, n * 2, 3, n / 2, 50})
	}
	return out
}

// P7.2: a crash at each operation, with any bytes kept.
func TestCrashAnywhere(t *testing.T) {
	for salt := range 4 {
		n, merged := 0, 0
		for done := false; !done; n++ {
			for _, keeps := range keepings() {
				d := newDisk(t, 65536)
				d.Arm(n)
				was := live(d, life{}, salt)
				done = !d.Down()
				merged = was.merged
				d.Crash(keeps)
				kept(t, "behind "+strconv.Itoa(n), d, was)
			}
		}
		if n < 60 || merged < 5 {
			t.Error("but", n, "operations,", merged, "merged")
		}
	}
}

// P7.2: life by life, each ended by a crash, nothing of what was told is lost, and the log goes on.
func TestLifeByLife(t *testing.T) {
	for salt := range 40 {
		d := newDisk(t, 65536)
		var was life
		for i := range 25 {
			d.Arm((i*salt*7 + salt + i) % 60)
			was = live(d, was, i+salt)
			d.Crash(slices.Repeat([]int{(i*5 + salt) % 30}, 99))
			was = kept(t, "life "+strconv.Itoa(i)+" of "+strconv.Itoa(salt), d, was)
		}
		if len(was.all) < 100 || was.merged < 5 {
			t.Error(salt, "but", len(was.all), "events,", was.merged, "merged")
		}
	}
}

// P7.2: full disks of many sizes, opened again and again.
func TestFullDisks(t *testing.T) {
	for most := 0; most < 1200; most += 7 {
		d := newDisk(t, most)
		var was life
		for i := range 5 {
			was = live(d, was, most+i)
			was = kept(t, "full at "+strconv.Itoa(most), d, was)
			d.Crash([]int{i * 3, 5, 100, 7})
			was = kept(t, "crashed, full at "+strconv.Itoa(most), d, life{all: was.all})
		}
	}
}

// P7.2: a log that is compacted ahead of each append tells the same as one that never is, and has no more than two pieces behind it.
func TestCompactChangesNoEvents(t *testing.T) {
	one, e := seglog.Create(newDisk(t, 1<<20), 64)
	wants(t, "Create", e, api.OK)
	other, e := seglog.Create(newDisk(t, 1<<20), 64)
	wants(t, "Create", e, api.OK)
	for i := range 90 {
		_, e := Compact(one)
		wants(t, "Compact", e, api.OK)
		if n := len(one.Pieces()); n > 2 {
			t.Error(n, "pieces")
		}
		more := some(1+i%7, i)
		wants(t, "Append", one.Append(more...), api.OK)
		wants(t, "Append", other.Append(more...), api.OK)
		a, _, e := recover.Scan(one.Disk())
		wants(t, "Scan", e, api.OK)
		b, _, e := recover.Scan(other.Disk())
		wants(t, "Scan", e, api.OK)
		if !slices.Equal(a, b) || one.Len() != other.Len() || one.Acked() != other.Acked() {
			t.Fatal(i, len(a), len(b), one.Acked(), other.Acked())
		}
	}
	if n := len(other.Pieces()); n < 20 {
		t.Error("but", n, "pieces")
	}
}
