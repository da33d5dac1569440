package compact

import (
	"maps"
	"slices"
	"strconv"
	"testing"

	"amanuensis/api"
	"amanuensis/disk"
	"amanuensis/event"
	"amanuensis/recover"
	"amanuensis/seglog"
	"amanuensis/segment"
)

// wants fails unless there is that error.
func wants(t *testing.T, what string, got, want api.Errno) {
	t.Helper()
	if got != want {
		t.Errorf("%s: error %d, not %d", what, got, want)
	}
}

// some are so many events of numbers that hang on salt.
func some(n, salt int) []api.Event {
	out := make([]api.Event, n)
	for i := range out {
		x := salt*7 + i
		out[i] = api.Event{Thread: x % 5, Op: api.Op(x % 27), Obj: x * x, A: int64(-x), B: int64(x%3) << 40}
	}
	return out
}

// head gives the head of a segment.
func head(first int) string {
	b, _ := segment.Head(first)
	return string(b)
}

// frame gives the frame of the events.
func frame(l []api.Event) string {
	b, _ := event.Frame(l)
	return string(b)
}

// dense gives the denser coding of the events.
func dense(first int, l []api.Event) string {
	b, _ := segment.Pack(first, l)
	return string(b)
}

// manifest gives the bytes that tell the pieces.
func manifest(l []api.Piece) string {
	b, _ := seglog.Manifest(l)
	return string(b)
}

// with gives the files with another one.
func with(files map[string]string, name, b string) map[string]string {
	out := maps.Clone(files)
	out[name] = b
	return out
}

// without gives the files but one.
func without(files map[string]string, name string) map[string]string {
	out := maps.Clone(files)
	delete(out, name)
	return out
}

// newDisk gives a disk of so many bytes.
func newDisk(t *testing.T, most int) *disk.Disk {
	t.Helper()
	d, e := disk.New(most)
	wants(t, "disk.New", e, api.OK)
	return d
}

// lay puts the files on the disk, all safe.
func lay(t *testing.T, d *disk.Disk, files map[string]string) {
	t.Helper()
	for name, b := range files {
		wants(t, "Append", d.Append(name, []byte(b)), api.OK)
		wants(t, "Sync", d.Sync(name), api.OK)
	}
}

// has fails unless the disk, which has its power, has these files and no others.
func has(t *testing.T, what string, d *disk.Disk, want map[string]string) {
	t.Helper()
	got := map[string]string{}
	for _, name := range d.List() {
		b, e := d.Read(name)
		wants(t, "Read "+name, e, api.OK)
		got[name] = string(b)
	}
	if !maps.Equal(got, want) {
		t.Errorf("%s: %q, not %q", what, got, want)
	}
}

// plan is a log: its pieces, their events and their files.
type plan struct {
	pieces []api.Piece
	events []api.Event
	files  map[string]string
}

// planOf gives a log of pieces with those names and so many events; a name that begins with d is of a dense one; the last one is open.
func planOf(names []string, counts []int) plan {
	out := plan{files: map[string]string{}}
	for i, name := range names {
		more := some(counts[i], i*13)
		p := api.Piece{Name: name, First: len(out.events), Count: counts[i], Dense: name[0] == 'd'}
		b := head(p.First)
		for j := range more {
			b += frame(more[j : j+1])
		}
		if p.Dense {
			b = dense(p.First, more)
		}
		if i == len(names)-1 {
			p.Count = 0
		}
		out.pieces, out.events = append(out.pieces, p), append(out.events, more...)
		out.files[name] = b
	}
	out.files["manifest"] = manifest(out.pieces)
	return out
}

// threePieces is the log of the chapter's example.
func threePieces() plan {
	return planOf([]string{"s0", "s8", "s17"}, []int{8, 9, 4})
}

// resumed gives that log, on that disk.
func (p plan) resumed(t *testing.T, d *disk.Disk) *seglog.Log {
	t.Helper()
	lay(t, d, p.files)
	l, e := seglog.Resume(d, 64, p.pieces, len(p.events))
	wants(t, "Resume", e, api.OK)
	return l
}

// log gives that log, on a disk that is great enough.
func (p plan) log(t *testing.T) *seglog.Log {
	t.Helper()
	return p.resumed(t, newDisk(t, 1<<20))
}

// compacted is what that log is when its sealed pieces are one.
func (p plan) compacted() plan {
	open := p.pieces[len(p.pieces)-1]
	one := api.Piece{Name: "d" + strconv.Itoa(open.First), Count: open.First, Dense: true}
	out := plan{pieces: []api.Piece{one, open}, events: p.events}
	out.files = map[string]string{
		one.Name:   dense(0, p.events[:one.Count]),
		open.Name:  p.files[open.Name],
		"manifest": manifest(out.pieces),
	}
	return out
}

// is fails unless the log is that one, with those files beside its own, all of them safe, and takes more.
func (p plan) is(t *testing.T, what string, l *seglog.Log, others map[string]string) {
	t.Helper()
	if !slices.Equal(l.Pieces(), p.pieces) || l.Len() != len(p.events) || l.Acked() != len(p.events) || l.Over() {
		t.Errorf("%s: %v, %d, %d, %v", what, l.Pieces(), l.Len(), l.Acked(), l.Over())
	}
	all := maps.Clone(p.files)
	maps.Copy(all, others)
	has(t, what, l.Disk(), all)
	for _, name := range l.Disk().List() {
		if l.Disk().Synced(name) != l.Disk().Size(name) {
			t.Errorf("%s: of %s are safe %d", what, name, l.Disk().Synced(name))
		}
	}
	events, pieces, e := recover.Scan(l.Disk())
	if !slices.Equal(events, p.events) || !slices.Equal(pieces, p.pieces) || e != api.OK {
		t.Errorf("%s: the disk tells %v, %v, error %d", what, events, pieces, e)
	}
}

// merges fails unless Compact tells that number, and no error.
func merges(t *testing.T, what string, l *seglog.Log, want int) {
	t.Helper()
	if n, e := Compact(l); n != want || e != api.OK {
		t.Errorf("%s: %d, error %d, not %d", what, n, e, want)
	}
}

// refuses fails unless Compact tells that error alone.
func refuses(t *testing.T, what string, l *seglog.Log, want api.Errno) {
	t.Helper()
	if n, e := Compact(l); n != 0 || e != want {
		t.Errorf("%s: %d, error %d, not %d", what, n, e, want)
	}
}

// P7.1: the chapter's example, as a log that was appended to.
func TestCompactOfAnAppendedLog(t *testing.T) {
	d := newDisk(t, 100000)
	l, e := seglog.Create(d, 64)
	wants(t, "Create", e, api.OK)
	merges(t, "one piece", l, 0)
	all := slices.Concat(some(8, 0), some(9, 1), some(2, 2))
	wants(t, "Append", l.Append(all[:8]...), api.OK)
	wants(t, "Append", l.Append(all[8:17]...), api.OK)
	wants(t, "Append", l.Append(all[17:]...), api.OK)
	if names := d.List(); !slices.Equal(names, []string{"manifest", "s0", "s17", "s8"}) || l.Acked() != 17 {
		t.Fatal(names, l.Acked())
	}
	merges(t, "three pieces", l, 2)
	merges(t, "once more", l, 0)
	want := []api.Piece{{Name: "d17", Count: 17, Dense: true}, {Name: "s17", First: 17}}
	if !slices.Equal(l.Pieces(), want) || l.Len() != 19 || l.Acked() != 17 {
		t.Error(l.Pieces(), l.Len(), l.Acked())
	}
	has(t, "three pieces", d, map[string]string{
		"d17":      dense(0, all[:17]),
		"manifest": manifest(want),
		"s17":      head(17) + frame(all[17:]),
	})
	if d.Synced("s17") == d.Size("s17") {
		t.Error("the open one is safe")
	}
}

// P7.1: example 8 of the document's whole, without its player.
func TestCompactOfManyWrites(t *testing.T) {
	d := newDisk(t, 65536)
	l, e := seglog.Create(d, 64)
	wants(t, "Create", e, api.OK)
	for range 15 {
		wants(t, "Append", l.Append(api.Event{Op: api.PWrite, A: 1}), api.OK)
		wants(t, "Sync", l.Sync(), api.OK)
	}
	sizes(t, d, map[string]int{"manifest": 28, "s0": 64, "s10": 64, "s5": 64})
	l, _, e = recover.Open(d, 64)
	wants(t, "Open", e, api.OK)
	merges(t, "fifteen writes", l, 2)
	sizes(t, d, map[string]int{"d10": 24, "manifest": 23, "s10": 64})
	events, _, e := recover.Scan(d)
	if len(events) != 15 || e != api.OK {
		t.Error(len(events), e)
	}
}

// sizes fails unless the disk has files of those sizes and no others.
func sizes(t *testing.T, d *disk.Disk, want map[string]int) {
	t.Helper()
	got := map[string]int{}
	for _, name := range d.List() {
		got[name] = d.Size(name)
	}
	if !maps.Equal(got, want) {
		t.Errorf("%v, not %v", got, want)
	}
}

// P7.1: logs of pieces of all kinds.
func TestCompact(t *testing.T) {
	for _, p := range []plan{
		threePieces(),
		planOf([]string{"s0", "s1"}, []int{1, 0}),
		planOf([]string{"x", "y"}, []int{3, 2}),
		planOf([]string{"d3", "s3", "s7"}, []int{3, 4, 1}),
		planOf([]string{"d3", "d7", "s7"}, []int{3, 4, 1}),
		planOf([]string{"s0", "d7", "s7"}, []int{3, 4, 0}),
		planOf([]string{"d2", "s2", "d9", "s9", "s12"}, []int{2, 3, 4, 3, 1}),
	} {
		what := p.pieces[0].Name + " and " + strconv.Itoa(len(p.pieces)-1)
		l := p.log(t)
		merges(t, what, l, len(p.pieces)-1)
		p.compacted().is(t, what, l, nil)
		merges(t, what+" again", l, 0)
		p.compacted().is(t, what+" again", l, nil)
	}
}

// P7.1: as many pieces as there may be; the log, which had no room for another one, goes on.
func TestCompactOfManyPieces(t *testing.T) {
	var names []string
	var counts []int
	for i := range api.MaxPieces {
		names, counts = append(names, "p"+strconv.Itoa(i)), append(counts, 20+i%3)
	}
	p := planOf(names, counts)
	l := p.log(t)
	merges(t, "many", l, api.MaxPieces-1)
	p.compacted().is(t, "many", l, nil)
	wants(t, "Append", l.Append(some(1, 0)...), api.OK)
	if n := len(l.Pieces()); n != 3 {
		t.Error(n)
	}
}

// P7.1: nothing is done, and not even read, if there is nothing to merge.
func TestCompactOfNothing(t *testing.T) {
	for _, p := range []plan{
		planOf([]string{"s0"}, []int{0}),
		planOf([]string{"s0"}, []int{5}),
		planOf([]string{"d5", "s5"}, []int{5, 2}),
		planOf([]string{"dense", "s5"}, []int{5, 0}),
	} {
		l := p.log(t)
		l.Disk().Arm(0)
		merges(t, "nothing to merge", l, 0)
		p.is(t, "nothing to merge", l, nil)
		wants(t, "the disk", l.Disk().Append("x", nil), api.ErrDown)
		merges(t, "without power", l, 0)
		l.Disk().Crash(nil)
		p.is(t, "without power", l, nil)
		wants(t, "Remove", l.Disk().Remove("manifest"), api.OK)
		merges(t, "no log any more", l, 0)
	}
}

// P7.1, R5: no log.
func TestCompactOfNoLog(t *testing.T) {
	refuses(t, "nil", nil, api.ErrNil)
	refuses(t, "a zero one", &seglog.Log{}, api.ErrNil)
}

// over ends the log by a Sync without power, and gives it with its disk's power back.
func over(t *testing.T, l *seglog.Log) *seglog.Log {
	t.Helper()
	l.Disk().Arm(0)
	wants(t, "Sync", l.Sync(), api.ErrDown)
	l.Disk().Crash(nil)
	return l
}

// P7.1: a log that is over, ahead of all that could be told of it.
func TestCompactOfALogThatIsOver(t *testing.T) {
	for _, p := range []plan{threePieces(), planOf([]string{"s0"}, []int{0}), planOf([]string{"d5", "s5"}, []int{5, 0})} {
		l := over(t, p.log(t))
		refuses(t, "over", l, api.ErrEnded)
		has(t, "over", l.Disk(), p.files)
		wants(t, "Remove", l.Disk().Remove("manifest"), api.OK)
		refuses(t, "over, and no log", l, api.ErrEnded)
		l.Disk().Arm(0)
		wants(t, "Sync", l.Disk().Sync("s"+strconv.Itoa(p.pieces[len(p.pieces)-1].First)), api.ErrDown)
		refuses(t, "over, and down", l, api.ErrEnded)
	}
}

// P7.1: recover.Scan's errors, and nothing is changed.
func TestCompactOfFilesThatAreNoLog(t *testing.T) {
	p := threePieces()
	for name, b := range p.files {
		for _, other := range []string{"", "bytes that are none", b[:len(b)-1], b + "\x00"} {
			if name == "s17" && len(other) >= len(head(17)) && other[:4] == b[:4] {
				continue
			}
			l := p.log(t)
			wants(t, "Remove", l.Disk().Remove(name), api.OK)
			wants(t, "Append", l.Disk().Append(name, []byte(other)), api.OK)
			refuses(t, name, l, api.ErrLog)
			has(t, name, l.Disk(), with(p.files, name, other))
		}
		l := p.log(t)
		wants(t, "Remove", l.Disk().Remove(name), api.OK)
		refuses(t, "no "+name, l, api.ErrLog)
		has(t, "no "+name, l.Disk(), without(p.files, name))
	}
}

// P7.1: a disk without power, and the log is not over by that.
func TestCompactWithoutPower(t *testing.T) {
	p := threePieces()
	l := p.log(t)
	l.Disk().Arm(0)
	wants(t, "Append", l.Disk().Append("x", nil), api.ErrDown)
	refuses(t, "down", l, api.ErrDown)
	l.Disk().Crash(nil)
	p.is(t, "down", l, nil)
	merges(t, "up again", l, 2)
	p.compacted().is(t, "up again", l, nil)
}

// P7.1: a disk's log of other pieces than the log has; nothing is changed, and the log isn't over.
func TestCompactOfOtherPieces(t *testing.T) {
	p := threePieces()
	for _, other := range []plan{
		p.compacted(),
		planOf([]string{"s0", "s8"}, []int{8, 9}),
		planOf([]string{"s0", "s8", "s17", "s21"}, []int{8, 9, 4, 0}),
		planOf([]string{"s0", "x8", "s17"}, []int{8, 9, 4}),
		planOf([]string{"s0", "s8", "x17"}, []int{8, 9, 4}),
		planOf([]string{"s0", "s7", "s17"}, []int{7, 10, 4}),
		planOf([]string{"s0", "s8", "s18"}, []int{8, 10, 4}),
		planOf([]string{"d8", "s8", "s17"}, []int{8, 9, 4}),
	} {
		l := p.log(t)
		for _, name := range l.Disk().List() {
			wants(t, "Remove", l.Disk().Remove(name), api.OK)
		}
		lay(t, l.Disk(), other.files)
		refuses(t, "others", l, api.ErrLog)
		has(t, "others", l.Disk(), other.files)
		if !slices.Equal(l.Pieces(), p.pieces) || l.Over() {
			t.Error(l.Pieces(), l.Over())
		}
	}
}

// P7.1: as many events as the denser coding takes, and one more, of which nothing is changed.
func TestCompactOfMostEvents(t *testing.T) {
	for more := range 2 {
		events := make([]api.Event, api.MaxPacked-1)
		p := plan{events: slices.Concat(events, make([]api.Event, 1+more))}
		n := len(p.events)
		p.pieces = []api.Piece{{Name: "a", Count: len(events), Dense: true}, {Name: "b", First: len(events), Count: 1 + more}, {Name: "c", First: n}}
		p.files = map[string]string{"a": dense(0, events), "b": head(len(events)) + frame(p.events[len(events):]), "c": head(n), "manifest": manifest(p.pieces)}
		l := p.log(t)
		if more == 0 {
			merges(t, "the most", l, 2)
			p.compacted().is(t, "the most", l, nil)
			continue
		}
		refuses(t, "one too many", l, api.ErrLong)
		p.is(t, "one too many", l, nil)
	}
}

// P7.1, R3: files that are none of the log's stay, but the one that has the new file's name.
func TestCompactBesideOtherFiles(t *testing.T) {
	p := threePieces()
	others := map[string]string{"a": "1", "d1": "2", "d170": "3", "d17.0": "4", "s1": "5", "z": "6"}
	for _, old := range []string{"", "x", "something that is longer than what is put there", p.compacted().files["d17"]} {
		l := p.log(t)
		lay(t, l.Disk(), with(others, "d17", old))
		merges(t, "with "+old, l, 2)
		p.compacted().is(t, "with "+old, l, others)
	}
	l := p.log(t)
	wants(t, "Append", l.Disk().Append("d17", []byte("not safe")), api.OK)
	wants(t, "Append", l.Disk().Append("manifest.new", []byte("not safe")), api.OK)
	merges(t, "others that are not safe", l, 2)
	p.compacted().is(t, "others that are not safe", l, nil)
}

// P7.1, R3: the pieces that a log told ahead of it stay what they were, and what it tells behind it is memory of its own.
func TestAnswersAreNew(t *testing.T) {
	p := threePieces()
	l := p.log(t)
	was := l.Pieces()
	merges(t, "three pieces", l, 2)
	if !slices.Equal(was, p.pieces) {
		t.Error(was)
	}
	clear(l.Pieces())
	p.compacted().is(t, "three pieces", l, nil)
}
