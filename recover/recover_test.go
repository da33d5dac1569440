package recover

import (
	"maps"
	"slices"
	"strconv"
	"strings"
	"testing"

	"amanuensis/api"
	"amanuensis/disk"
	"amanuensis/event"
	"amanuensis/seglog"
	"amanuensis/segment"
)

// wants fails unless there is that error.
func wants(t *testing.T, what string, got, want api.Errno) {
	t.Helper()
	if got != want {
		t.Errorf("%s: error %d, not %d", what, got, want)
	}
}

// newDisk gives a disk of so many bytes.
func newDisk(t *testing.T, most int) *disk.Disk {
	t.Helper()
	d, e := disk.New(most)
	wants(t, "disk.New", e, api.OK)
	return d
}

// diskOf gives a disk with these files, all safe.
func diskOf(t *testing.T, files map[string]string) *disk.Disk {
	t.Helper()
	d := newDisk(t, 100000)
	for name, b := range files {
		wants(t, "Append", d.Append(name, []byte(b)), api.OK)
		wants(t, "Sync", d.Sync(name), api.OK)
	}
	return d
}

// files tells all files of a disk that has its power.
func files(t *testing.T, d *disk.Disk) map[string]string {
	t.Helper()
	out := map[string]string{}
	for _, name := range d.List() {
		b, e := d.Read(name)
		wants(t, "Read "+name, e, api.OK)
		out[name] = string(b)
	}
	return out
}

// has fails unless the disk has these files and no others.
func has(t *testing.T, what string, d *disk.Disk, want map[string]string) {
	t.Helper()
	if got := files(t, d); !maps.Equal(got, want) {
		t.Errorf("%s: %q, not %q", what, got, want)
	}
}

// with gives the files with another one.
func with(files map[string]string, name, b string) map[string]string {
	out := maps.Clone(files)
	out[name] = b
	return out
}

// without gives the files but one.
func without(files map[string]string, name string) map[string]string {
	out := maps.Clone(files)
	delete(out, name)
	return out
}

// down takes the disk's power away.
func down(d *disk.Disk) *disk.Disk {
	d.Arm(0)
	d.Append("power", nil)
	return d
}

// head gives the head of a segment.
func head(first int) string {
	b, _ := segment.Head(first)
	return string(b)
}

// frame gives the frame of the events.
func frame(l []api.Event) string {
	b, _ := event.Frame(l)
	return string(b)
}

// dense gives the denser coding of the events.
func dense(first int, l []api.Event) string {
	b, _ := segment.Pack(first, l)
	return string(b)
}

// manifest gives the bytes that tell the pieces.
func manifest(l []api.Piece) string {
	b, _ := seglog.Manifest(l)
	return string(b)
}

// some are so many events, of numbers from that one on.
func some(n, from int) []api.Event {
	out := make([]api.Event, n)
	for i := range out {
		out[i] = api.Event{Thread: (from + i) % 3, Op: api.PWrite, Obj: from % 5, A: int64(from + i), B: -int64(i)}
	}
	return out
}

// threePieces are a dense one, a sealed segment and an open one.
func threePieces() []api.Piece {
	return []api.Piece{{Name: "d4", Count: 4, Dense: true}, {Name: "s4", First: 4, Count: 5}, {Name: "s9", First: 9}}
}

// threeEvents are the events of the three pieces' files.
func threeEvents() []api.Event {
	return slices.Concat(some(4, 0), some(2, 10), some(3, 20), some(1, 30), some(2, 40))
}

// threeFiles are the files of the three pieces.
func threeFiles() map[string]string {
	return map[string]string{
		"manifest": manifest(threePieces()),
		"d4":       dense(0, some(4, 0)),
		"s4":       head(4) + frame(some(2, 10)) + frame(some(3, 20)),
		"s9":       head(9) + frame(some(1, 30)) + frame(some(2, 40)),
	}
}

// tells fails unless the call told these events and pieces, and that error.
func tells(t *testing.T, what string, call func() ([]api.Event, []api.Piece, api.Errno), events []api.Event, pieces []api.Piece, fault api.Errno) {
	t.Helper()
	l, p, e := call()
	if !slices.Equal(l, events) || !slices.Equal(p, pieces) || e != fault {
		t.Errorf("%s: %v %v, error %d; not %v %v, error %d", what, l, p, e, events, pieces, fault)
	}
}

// scans fails unless the disk's Scan tells that and changes nothing, twice.
func scans(t *testing.T, what string, d *disk.Disk, events []api.Event, pieces []api.Piece, fault api.Errno) {
	t.Helper()
	scan := func() ([]api.Event, []api.Piece, api.Errno) { return Scan(d) }
	was := look(d)
	tells(t, what, scan, events, pieces, fault)
	if got := look(d); got != was {
		t.Errorf("%s: %s, not %s", what, got, was)
	}
	tells(t, what+" again", scan, events, pieces, fault)
}

// look tells all of a disk but the files' bytes.
func look(d *disk.Disk) string {
	out := strconv.FormatBool(d.Down())
	for _, name := range d.List() {
		out += " " + name + " " + strconv.Itoa(d.Size(name)) + " " + strconv.Itoa(d.Synced(name))
	}
	return out
}

// noneOf is a disk's files that are no log, and why not.
type noneOf struct {
	why   string
	files map[string]string
}

// noLogs are files that are no log.
func noLogs() []noneOf {
	good, p := threeFiles(), threePieces()
	var out []noneOf
	add := func(why, name, b string) { out = append(out, noneOf{why, with(good, name, b)}) }
	list := func(why string, i int, change func(p *api.Piece)) {
		l := slices.Clone(p)
		change(&l[i])
		for next := i + 1; next < len(l); next++ {
			l[next].First = l[next-1].First + l[next-1].Count
		}
		add(why, "manifest", manifest(l))
	}
	add("an empty manifest", "manifest", "")
	add("bytes that are none", "manifest", "no manifest")
	add("a manifest that is cut", "manifest", good["manifest"][:len(good["manifest"])-1])
	add("a byte behind the manifest", "manifest", good["manifest"]+"\x00")
	for i := range len(good["manifest"]) {
		b := []byte(good["manifest"])
		b[i] ^= 1
		add("a bit of the manifest", "manifest", string(b))
	}
	for _, name := range []string{"d4", "s4", "s9"} {
		out = append(out, noneOf{name + " is not there", without(good, name)})
		add("an empty file "+name, name, "")
		add("a file that is none "+name, name, "bytes that are no segment")
		b := []byte(good[name])
		b[4]++
		add("another number under the old sum of "+name, name, string(b))
	}
	add("a dense one's number", "d4", dense(1, some(4, 0)))
	add("a dense one with one less", "d4", dense(0, some(3, 0)))
	add("a dense one with one more", "d4", dense(0, some(5, 0)))
	add("a byte behind a dense one", "d4", good["d4"]+"\x00")
	add("a dense one that is cut", "d4", good["d4"][:len(good["d4"])-1])
	add("a segment in a dense one's place", "d4", head(0)+frame(some(4, 0)))
	add("a dense one in a segment's place", "s4", dense(4, some(5, 0)))
	add("a dense one in the open one's place", "s9", dense(9, some(5, 0)))
	add("a segment's number", "s4", head(5)+frame(some(5, 0)))
	add("a segment without frames", "s4", head(4))
	add("a segment with one less", "s4", head(4)+frame(some(4, 0)))
	add("a segment with one more", "s4", head(4)+frame(some(6, 0)))
	add("a byte behind a segment", "s4", good["s4"]+"\x00")
	add("a segment that is cut", "s4", good["s4"][:len(good["s4"])-1])
	add("a segment's frame behind a broken one", "s4", head(4)+frame(some(5, 10))+"\x00"+frame(some(1, 0)))
	add("the open one's number", "s9", head(8)+frame(some(5, 0)))
	add("the open one's greater number", "s9", head(10))
	for n := range len(head(9)) {
		add("the open one's head that is cut", "s9", good["s9"][:n])
	}
	list("one more of the dense one", 0, func(p *api.Piece) { p.Count++ })
	list("one less of the dense one", 0, func(p *api.Piece) { p.Count-- })
	list("one more of the segment", 1, func(p *api.Piece) { p.Count++ })
	list("one less of the segment", 1, func(p *api.Piece) { p.Count-- })
	list("a dense one that is said to be a segment", 0, func(p *api.Piece) { p.Dense = false })
	list("a segment that is said to be dense", 1, func(p *api.Piece) { p.Dense = true })
	list("another name", 1, func(p *api.Piece) { p.Name = "s5" })
	list("another name of the open one", 2, func(p *api.Piece) { p.Name = "s5" })
	return out
}

// P6.1: without a manifest there is no log, whatever else there is.
func TestScanOfNoManifest(t *testing.T) {
	scans(t, "no files", newDisk(t, 0), nil, nil, api.OK)
	scans(t, "no manifest", diskOf(t, without(threeFiles(), "manifest")), nil, nil, api.OK)
	scans(t, "a new one", diskOf(t, map[string]string{"manifest.new": threeFiles()["manifest"], "manifest2": "x"}), nil, nil, api.OK)
}

// P6.1: the pieces' events, one behind the other.
func TestScan(t *testing.T) {
	scans(t, "three pieces", diskOf(t, threeFiles()), threeEvents(), threePieces(), api.OK)
	one := []api.Piece{{Name: "log"}}
	scans(t, "no events", diskOf(t, map[string]string{"manifest": manifest(one), "log": head(0)}), nil, one, api.OK)
	others := with(with(threeFiles(), "a", "x"), "manifest.new", "y")
	scans(t, "other files", diskOf(t, others), threeEvents(), threePieces(), api.OK)
	empty := with(threeFiles(), "s9", head(9))
	scans(t, "an open one without events", diskOf(t, empty), threeEvents()[:9], threePieces(), api.OK)
}

// P6.1: of the open piece, and of that one alone, the whole frames are told, whatever is behind them.
func TestScanOfAnOpenPieceThatIsCut(t *testing.T) {
	good := threeFiles()
	first := len(head(9) + frame(some(1, 30)))
	for n := len(head(9)); n <= len(good["s9"]); n++ {
		left := 9
		if n >= first {
			left = 10
		}
		if n == len(good["s9"]) {
			left = 12
		}
		d := diskOf(t, with(good, "s9", good["s9"][:n]))
		scans(t, "cut at "+strconv.Itoa(n), d, threeEvents()[:left], threePieces(), api.OK)
	}
	for _, behind := range []string{"\x00", "x", strings.Repeat("\xff", 20), "\x00" + frame(some(1, 0))} {
		d := diskOf(t, with(good, "s9", good["s9"]+behind))
		scans(t, "behind it", d, threeEvents(), threePieces(), api.OK)
	}
}

// P6.1: as many pieces as there may be.
func TestScanOfManyPieces(t *testing.T) {
	var pieces []api.Piece
	var events []api.Event
	all := map[string]string{}
	for i := range api.MaxPieces {
		p := api.Piece{Name: "p" + strconv.Itoa(i), First: len(events), Count: i%3 + 1, Dense: i%2 == 1}
		more := some(p.Count, i)
		all[p.Name] = head(p.First) + frame(more)
		if i == api.MaxPieces-1 {
			p.Count, p.Dense = 0, false
		}
		if p.Dense {
			all[p.Name] = dense(p.First, more)
		}
		pieces, events = append(pieces, p), append(events, more...)
	}
	all["manifest"] = manifest(pieces)
	if all["p99"] == "" || len(events) != 199 {
		t.Fatal(len(events))
	}
	all["p99"] = head(pieces[99].First) + frame(events[pieces[99].First:])
	scans(t, "many", diskOf(t, all), events, pieces, api.OK)
}

// P6.1: files that are no log.
func TestScanOfNoLog(t *testing.T) {
	for _, no := range noLogs() {
		scans(t, no.why, diskOf(t, no.files), nil, nil, api.ErrLog)
	}
}

// P6.1, R5: no disk, and one without power.
func TestScanOfNoDisk(t *testing.T) {
	scans(t, "nil", nil, nil, nil, api.ErrNil)
	scans(t, "a zero one", &disk.Disk{}, nil, nil, api.ErrNil)
	scans(t, "down", down(newDisk(t, 10)), nil, nil, api.ErrDown)
	scans(t, "down with a log", down(diskOf(t, threeFiles())), nil, nil, api.ErrDown)
	scans(t, "down without a log", down(diskOf(t, map[string]string{"manifest": ""})), nil, nil, api.ErrDown)
}

// P6.1: no operation is done.
func TestScanOfAnArmedDisk(t *testing.T) {
	d := diskOf(t, with(threeFiles(), "x", "y"))
	d.Arm(0)
	scans(t, "armed", d, threeEvents(), threePieces(), api.OK)
	if d.Down() {
		t.Error("the power failed")
	}
	wants(t, "Sync", d.Sync("x"), api.ErrDown)
}

// R3: what one call told is not what another one told.
func TestAnswersAreNew(t *testing.T) {
	d := diskOf(t, threeFiles())
	events, pieces, _ := Scan(d)
	more, others, _ := Mend(d)
	log, opened, _ := Open(d, 64)
	for i := range events {
		events[i], more[i], opened[i] = api.Event{}, api.Event{A: 1}, api.Event{A: 2}
	}
	clear(pieces)
	clear(others)
	clear(log.Pieces())
	scans(t, "still", d, threeEvents(), threePieces(), api.OK)
	if !slices.Equal(log.Pieces(), threePieces()) {
		t.Error(log.Pieces())
	}
}
