package recover

import (
	"slices"
	"strconv"
	"testing"

	"amanuensis/api"
	"amanuensis/disk"
	"amanuensis/seglog"
	"amanuensis/segment"
)

// life is what was done to a log: events that were appended (the last ones perhaps in vain), and how many of them were acknowledged.
type life struct {
	all   []api.Event
	acked int
}

// live opens the disk's log and appends to it, syncs now and then, and puts a denser file in the place of its sealed ones, till all is done or the log is over.
func live(d *disk.Disk, was life, salt int) life {
	l, events, e := Open(d, 64)
	if e != api.OK {
		return was
	}
	out := life{all: events, acked: len(events)}
	for i := range 18 {
		more := some(1+(i+salt)%5, i*salt)
		out.all = append(out.all, more...)
		e := l.Append(more...)
		if e == api.OK && (i+salt)%6 == 0 {
			e = l.Sync()
		}
		if e == api.OK && i%8 == 7 {
			e = merge(l, out.all)
		}
		out.acked = l.Acked()
		if e != api.OK {
			break
		}
	}
	return out
}

// merge swaps the log's sealed pieces for one file of the denser coding.
func merge(l *seglog.Log, all []api.Event) api.Errno {
	pieces := l.Pieces()
	n := pieces[len(pieces)-1].First
	one := api.Piece{Name: "d" + strconv.Itoa(n), Count: n, Dense: true}
	if n == 0 || pieces[0].Name == one.Name {
		return api.OK
	}
	b, _ := segment.Pack(0, all[:n])
	if e := l.Disk().Append(one.Name, b); e != api.OK {
		return e
	}
	if e := l.Disk().Sync(one.Name); e != api.OK {
		return e
	}
	return l.Swap([]api.Piece{one})
}

// kept fails unless the disk tells a beginning of what was appended, and all that was acknowledged, and gives what it tells.
func kept(t *testing.T, what string, d *disk.Disk, was life) life {
	t.Helper()
	told, _, e := Scan(d)
	wants(t, what, e, api.OK)
	if len(told) < was.acked || len(told) > len(was.all) || !slices.Equal(told, was.all[:len(told)]) {
		t.Errorf("%s: %d events told, %d acknowledged, of %d", what, len(told), was.acked, len(was.all))
	}
	return life{all: told, acked: len(told)}
}

// keepings are how much of what is not safe a crash leaves.
func keepings() [][]int {
	out := [][]int{nil, slices.Repeat([]int{10000}, 99)}
	for n := 1; n < 40; n += 4 {
		out = append(out, slices.Repeat([]int{n}, 99), []int{n, 0, n * 2, 3, n / 2, 50})
	}
	return out
}

// P6.4: a crash at each operation, with any bytes kept.
func TestCrashAnywhere(t *testing.T) {
	for salt := range 3 {
		n := 0
		for done := false; !done; n++ {
			for _, keeps := range keepings() {
				d := newDisk(t, 65536)
				d.Arm(n)
				was := live(d, life{}, salt)
				done = !d.Down()
				d.Crash(keeps)
				kept(t, "behind "+strconv.Itoa(n), d, was)
			}
		}
		if n < 40 {
			t.Error("but", n, "operations")
		}
	}
}

// P6.4: life by life, each ended by a crash, within Mend, too, nothing of what was told is lost.
func TestLifeByLife(t *testing.T) {
	for salt := range 40 {
		d := newDisk(t, 65536)
		var was life
		for i := range 25 {
			d.Arm((i*salt*7 + salt + i) % 60)
			was = live(d, was, i+salt)
			d.Crash(slices.Repeat([]int{(i*5 + salt) % 30}, 99))
			was = kept(t, "life "+strconv.Itoa(i)+" of "+strconv.Itoa(salt), d, was)
		}
		if len(was.all) < 100 {
			t.Error(salt, "but", len(was.all), "events")
		}
	}
}

// P6.4: neither Mend nor a crash within it changes what the log tells.
func TestCrashWithinMend(t *testing.T) {
	for n := 0; n < 60; n += 5 {
		for _, keeps := range keepings() {
			for at := range 8 {
				d := newDisk(t, 65536)
				d.Arm(n)
				live(d, life{}, n)
				d.Crash(keeps)
				told, pieces, e := Scan(d)
				wants(t, "Scan", e, api.OK)
				d.Arm(at)
				Mend(d)
				d.Crash(keeps)
				scans(t, "behind "+strconv.Itoa(at), d, told, pieces, api.OK)
				mends(t, "at last", d, told, pieces, leftOf(t, d, pieces))
			}
		}
	}
}

// leftOf tells the files that stay, by the layers below alone.
func leftOf(t *testing.T, d *disk.Disk, pieces []api.Piece) map[string]string {
	t.Helper()
	out := map[string]string{}
	all := files(t, d)
	if len(pieces) > 0 {
		out["manifest"] = all["manifest"]
	}
	for i, p := range pieces {
		out[p.Name] = all[p.Name]
		if i == len(pieces)-1 {
			_, _, end, _ := segment.Scan([]byte(all[p.Name]))
			out[p.Name] = all[p.Name][:end]
		}
	}
	return out
}

// P6.4: full disks of many sizes, opened again and again.
func TestFullDisks(t *testing.T) {
	for most := 0; most < 1200; most += 7 {
		d := newDisk(t, most)
		var was life
		for i := range 5 {
			was = live(d, was, most+i)
			was = kept(t, "full at "+strconv.Itoa(most), d, was)
			d.Crash([]int{i * 3, 5, 100, 7})
			was = kept(t, "crashed, full at "+strconv.Itoa(most), d, life{all: was.all, acked: 0})
		}
	}
}
