package recover

import (
	"maps"
	"slices"
	"strconv"
	"testing"

	"amanuensis/api"
	"amanuensis/disk"
	"amanuensis/seglog"
)

// mends fails unless the disk's Mend tells that and leaves those files, twice.
func mends(t *testing.T, what string, d *disk.Disk, events []api.Event, pieces []api.Piece, left map[string]string) {
	t.Helper()
	mend := func() ([]api.Event, []api.Piece, api.Errno) { return Mend(d) }
	tells(t, what, mend, events, pieces, api.OK)
	has(t, what, d, left)
	d.Arm(0)
	tells(t, what+" again", mend, events, pieces, api.OK)
	has(t, what+" again", d, left)
}

// P6.2: a log of which nothing is too much stays as it is, without an operation.
func TestMendOfAWholeLog(t *testing.T) {
	d := diskOf(t, threeFiles())
	wants(t, "Append", d.Append("s9", []byte(frame(some(1, 0)))), api.OK)
	was := look(d)
	more := with(threeFiles(), "s9", threeFiles()["s9"]+frame(some(1, 0)))
	mends(t, "whole", d, slices.Concat(threeEvents(), some(1, 0)), threePieces(), more)
	if got := look(d); got != was {
		t.Errorf("%s, not %s", got, was)
	}
}

// P6.2: the open piece's file has whole frames alone, and these are safe.
func TestMendCuts(t *testing.T) {
	good := threeFiles()
	for n := len(head(9)); n < len(good["s9"]); n++ {
		d := diskOf(t, without(good, "s9"))
		wants(t, "Append", d.Append("s9", []byte(good["s9"][:n])), api.OK)
		events, whole := threeEvents()[:9], head(9)
		if n >= len(head(9)+frame(some(1, 30))) {
			events, whole = threeEvents()[:10], head(9)+frame(some(1, 30))
		}
		mends(t, "cut at "+strconv.Itoa(n), d, events, threePieces(), with(good, "s9", whole))
		if safe := d.Synced("s9"); n > len(whole) && safe != len(whole) || n == len(whole) && safe != 0 {
			t.Error(n, "of which are safe:", safe)
		}
	}
	long := diskOf(t, with(good, "s9", good["s9"]+"\xff and more"))
	mends(t, "bytes behind", long, threeEvents(), threePieces(), good)
}

// P6.2: all other files are removed.
func TestMendRemoves(t *testing.T) {
	all := with(with(with(with(threeFiles(), "a", "x"), "manifest.new", "y"), "s99", head(99)), "s", "")
	mends(t, "others", diskOf(t, all), threeEvents(), threePieces(), threeFiles())
	mends(t, "no log", diskOf(t, without(all, "manifest")), nil, nil, nil)
	mends(t, "no files", newDisk(t, 0), nil, nil, nil)
	cut := with(with(all, "s9", head(9)+"xx"), "zzz", "x")
	mends(t, "both", diskOf(t, cut), threeEvents()[:9], threePieces(), with(threeFiles(), "s9", head(9)))
}

// P6.2: of as many files as there may be.
func TestMendOfAFullDisk(t *testing.T) {
	d := diskOf(t, threeFiles())
	for n := 0; d.Append("f"+strconv.Itoa(n), nil) == api.OK; n++ {
	}
	if n := len(d.List()); n != api.MaxFiles {
		t.Fatal(n)
	}
	mends(t, "full", d, threeEvents(), threePieces(), threeFiles())
}

// P6.2: Scan's errors, and nothing is changed.
func TestMendOfNoLog(t *testing.T) {
	for _, no := range noLogs() {
		files := with(no.files, "x", "y")
		d := diskOf(t, files)
		tells(t, no.why, func() ([]api.Event, []api.Piece, api.Errno) { return Mend(d) }, nil, nil, api.ErrLog)
		has(t, no.why, d, files)
	}
}

// P6.2, R5: no disk, and one without power.
func TestMendOfNoDisk(t *testing.T) {
	for _, d := range []*disk.Disk{nil, {}} {
		tells(t, "none", func() ([]api.Event, []api.Piece, api.Errno) { return Mend(d) }, nil, nil, api.ErrNil)
	}
	d := down(diskOf(t, with(threeFiles(), "x", "y")))
	tells(t, "down", func() ([]api.Event, []api.Piece, api.Errno) { return Mend(d) }, nil, nil, api.ErrDown)
	d.Crash(nil)
	has(t, "down", d, with(threeFiles(), "x", "y"))
}

// P6.2: first the open one is cut, then the others are removed, by rising names, up to the first error.
func TestMendStepByStep(t *testing.T) {
	good := threeFiles()
	all := with(with(with(with(good, "s9", good["s9"]+"x"), "zz", "1"), "a", "2"), "m", "3")
	left := []map[string]string{all}
	left = append(left, with(left[0], "s9", good["s9"]))
	for _, name := range []string{"a", "m", "zz"} {
		left = append(left, without(left[len(left)-1], name))
	}
	for n, want := range left {
		d := diskOf(t, all)
		d.Arm(n)
		events, pieces, e := Mend(d)
		if n == 4 {
			wants(t, "Mend", e, api.OK)
		} else if events != nil || pieces != nil || e != api.ErrDown {
			t.Error(n, events, pieces, e)
		}
		d.Crash(nil)
		has(t, "behind "+strconv.Itoa(n), d, want)
		scans(t, "behind "+strconv.Itoa(n), d, threeEvents(), threePieces(), api.OK)
	}
	cut := diskOf(t, with(good, "s9", good["s9"]+"x"))
	cut.Arm(0)
	tells(t, "a cut alone", func() ([]api.Event, []api.Piece, api.Errno) { return Mend(cut) }, nil, nil, api.ErrDown)
	d := diskOf(t, without(all, "manifest"))
	for n, name := range d.List() {
		e := diskOf(t, without(all, "manifest"))
		e.Arm(n)
		_, _, fault := Mend(e)
		wants(t, "Mend", fault, api.ErrDown)
		e.Crash(nil)
		if !slices.Equal(e.List(), d.List()[n:]) {
			t.Error(name, e.List())
		}
	}
}

// opens fails unless Open gives a log of that disk, with these pieces, and these events, all acknowledged.
func opens(t *testing.T, what string, d *disk.Disk, size int, events []api.Event, pieces []api.Piece) *seglog.Log {
	t.Helper()
	l, told, e := Open(d, size)
	wants(t, what, e, api.OK)
	if !slices.Equal(told, events) || !slices.Equal(l.Pieces(), pieces) || l.Len() != len(events) || l.Acked() != len(events) || l.Over() || l.Disk() != d {
		t.Errorf("%s: %v, %v, %d, %d, %v", what, told, l.Pieces(), l.Len(), l.Acked(), l.Over())
	}
	return l
}

// P6.3: a disk's log goes on, mended and safe.
func TestOpen(t *testing.T) {
	d := diskOf(t, with(threeFiles(), "x", "y"))
	wants(t, "Append", d.Append("s9", []byte(frame(some(1, 0))+"xx")), api.OK)
	events := slices.Concat(threeEvents(), some(1, 0))
	l := opens(t, "three pieces", d, api.MaxDisk, events, threePieces())
	has(t, "three pieces", d, with(threeFiles(), "s9", threeFiles()["s9"]+frame(some(1, 0))))
	wants(t, "Append", l.Append(some(3, 50)...), api.OK)
	d.Crash([]int{100, 100, 100, 100})
	scans(t, "behind it", d, slices.Concat(events, some(3, 50)), threePieces(), api.OK)
	whole := diskOf(t, without(threeFiles(), "s9"))
	wants(t, "Append", whole.Append("s9", []byte(threeFiles()["s9"])), api.OK)
	opens(t, "not safe yet", whole, 64, threeEvents(), threePieces())
	if whole.Synced("s9") != whole.Size("s9") {
		t.Error(whole.Synced("s9"))
	}
}

// P6.3: the size is that at which another segment begins.
func TestOpenOfASize(t *testing.T) {
	d := diskOf(t, threeFiles())
	l := opens(t, "small", d, 64, threeEvents(), threePieces())
	for n := 0; n < 10 && d.Size("s9") < 64; n++ {
		wants(t, "Append", l.Append(some(1, 0)...), api.OK)
	}
	if n := len(l.Pieces()); n != 3 {
		t.Error(n)
	}
	wants(t, "Append", l.Append(some(1, 0)...), api.OK)
	if n := len(l.Pieces()); n != 4 {
		t.Error(n)
	}
}

// P6.3: without a log a new one begins, on a disk that has nothing else.
func TestOpenOfNoManifest(t *testing.T) {
	one := []api.Piece{{Name: "s0"}}
	for _, files := range []map[string]string{nil, without(threeFiles(), "manifest"), {"manifest.new": "x", "s0": "y", "z": ""}} {
		d := diskOf(t, files)
		opens(t, "none", d, 64, nil, one)
		has(t, "none", d, map[string]string{"s0": head(0), "manifest": manifest(one)})
		d.Crash(nil)
		opens(t, "none, again", d, 64, nil, one)
	}
}

// shuts fails unless Open answers that error alone.
func shuts(t *testing.T, what string, d *disk.Disk, size int, want api.Errno) {
	t.Helper()
	l, events, e := Open(d, size)
	if l != nil || events != nil || e != want {
		t.Errorf("%s: %v, %v, error %d, not %d", what, l, events, e, want)
	}
}

// P6.3: ErrArg ahead of all, then Mend's errors.
func TestOpenErrors(t *testing.T) {
	files := with(threeFiles(), "x", "y")
	for _, size := range []int{-1 << 63, -1, 0, api.MinSize - 1, api.MaxDisk + 1, 1<<63 - 1} {
		d := diskOf(t, files)
		shuts(t, "size", d, size, api.ErrArg)
		has(t, "size", d, files)
		shuts(t, "size of nil", nil, size, api.ErrArg)
		shuts(t, "size of no log", diskOf(t, map[string]string{"manifest": ""}), size, api.ErrArg)
		shuts(t, "size of a disk that is down", down(d), size, api.ErrArg)
	}
	shuts(t, "nil", nil, 64, api.ErrNil)
	shuts(t, "a zero one", &disk.Disk{}, 64, api.ErrNil)
	shuts(t, "down", down(diskOf(t, files)), 64, api.ErrDown)
	for _, no := range noLogs() {
		d := diskOf(t, no.files)
		shuts(t, no.why, d, 64, api.ErrLog)
		has(t, no.why, d, no.files)
	}
}

// P6.3: Mend's error, Resume's and Create's.
func TestOpenWithoutPower(t *testing.T) {
	all := with(with(threeFiles(), "s9", threeFiles()["s9"]+"x"), "zz", "1")
	for n := range 3 {
		d := diskOf(t, all)
		d.Arm(n)
		shuts(t, "behind "+strconv.Itoa(n), d, 64, api.ErrDown)
		d.Crash(nil)
		scans(t, "behind "+strconv.Itoa(n), d, threeEvents(), threePieces(), api.OK)
	}
	for n := range 6 {
		d := diskOf(t, map[string]string{"a": "x"})
		d.Arm(n)
		shuts(t, "a new one behind "+strconv.Itoa(n), d, 64, api.ErrDown)
		d.Crash(nil)
		opens(t, "behind "+strconv.Itoa(n), d, 64, nil, []api.Piece{{Name: "s0"}})
	}
	full := newDisk(t, 10)
	shuts(t, "full", full, 64, api.ErrFull)
	if !maps.Equal(files(t, full), map[string]string{"s0": head(0)}) {
		t.Error(files(t, full))
	}
	freed := newDisk(t, 60)
	wants(t, "Append", freed.Append("a", make([]byte, 60)), api.OK)
	opens(t, "a full disk that is freed", freed, 64, nil, []api.Piece{{Name: "s0"}})
}
