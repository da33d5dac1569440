package seglog

import (
	"maps"
	"math"
	"slices"
	"strconv"
	"testing"

	"amanuensis/api"
	"amanuensis/disk"
	"amanuensis/event"
	"amanuensis/segment"
)

// wants fails unless there is that error.
func wants(t *testing.T, what string, got, want api.Errno) {
	t.Helper()
	if got != want {
		t.Errorf("%s: error %d, not %d", what, got, want)
	}
}

// newDisk gives a disk of so many bytes.
func newDisk(t *testing.T, most int) *disk.Disk {
	t.Helper()
	d, e := disk.New(most)
	wants(t, "disk.New", e, api.OK)
	return d
}

// diskOf gives a disk with these files, all safe.
func diskOf(t *testing.T, files map[string]string) *disk.Disk {
	t.Helper()
	d := newDisk(t, 100000)
	for name, b := range files {
		wants(t, "Append", d.Append(name, []byte(b)), api.OK)
		wants(t, "Sync", d.Sync(name), api.OK)
	}
	return d
}

// read tells all files of a disk that has its power.
func read(t *testing.T, d *disk.Disk) map[string]string {
	t.Helper()
	out := map[string]string{}
	for _, name := range d.List() {
		b, e := d.Read(name)
		wants(t, "Read "+name, e, api.OK)
		out[name] = string(b)
	}
	return out
}

// has fails unless the disk has these files and no others.
func has(t *testing.T, what string, d *disk.Disk, want map[string]string) {
	t.Helper()
	if got := read(t, d); !maps.Equal(got, want) {
		t.Errorf("%s: %q, not %q", what, got, want)
	}
}

// down takes the disk's power away.
func down(d *disk.Disk) *disk.Disk {
	d.Arm(0)
	d.Append("power", nil)
	return d
}

// state is all that a log tells of itself.
type state struct {
	count, acked int
	over         bool
	pieces       string
	d            *disk.Disk
}

func stateOf(l *Log) state {
	return state{l.Len(), l.Acked(), l.Over(), words(l.Pieces()), l.Disk()}
}

// words are the pieces as a text.
func words(l []api.Piece) string {
	out := ""
	for _, p := range l {
		out += p.Name + " " + strconv.Itoa(p.First) + " " + strconv.Itoa(p.Count)
		if p.Dense {
			out += " dense"
		}
		out += "; "
	}
	return out
}

// is fails unless the log tells that of itself.
func is(t *testing.T, what string, l *Log, want state) {
	t.Helper()
	if got := stateOf(l); got != want {
		t.Errorf("%s: %v, not %v", what, got, want)
	}
}

// head gives the head of a segment.
func head(first int) string {
	b, _ := segment.Head(first)
	return string(b)
}

// frame gives the frame of the events.
func frame(l []api.Event) string {
	b, _ := event.Frame(l)
	return string(b)
}

// some are so many events, of numbers from that one on.
func some(n, from int) []api.Event {
	out := make([]api.Event, n)
	for i := range out {
		out[i] = api.Event{Thread: (from + i) % 3, Op: api.PWrite, Obj: from % 5, A: int64(from + i), B: -int64(i)}
	}
	return out
}

// frames gives the events as frames of one event each.
func frames(l []api.Event) string {
	out := ""
	for _, e := range l {
		out += frame([]api.Event{e})
	}
	return out
}

// newLog gives a log on a new disk.
func newLog(t *testing.T, size int) *Log {
	t.Helper()
	return created(t, newDisk(t, api.MaxDisk), size)
}

func created(t *testing.T, d *disk.Disk, size int) *Log {
	t.Helper()
	l, e := Create(d, size)
	wants(t, "Create", e, api.OK)
	if l == nil {
		t.Fatal("no log")
	}
	return l
}

// resumed gives a log of these pieces, with so many events, whose open piece's file has those bytes.
func resumed(t *testing.T, size int, l []api.Piece, n int, open string) *Log {
	t.Helper()
	d := diskOf(t, map[string]string{l[len(l)-1].Name: open, "manifest": string(plainManifest(l))})
	out, e := Resume(d, size, l, n)
	wants(t, "Resume", e, api.OK)
	if out == nil {
		t.Fatal("no log")
	}
	return out
}

// create tells the error of Create, and fails if there is a log beside it.
func create(t *testing.T, d *disk.Disk, size int) api.Errno {
	t.Helper()
	l, e := Create(d, size)
	if l != nil && e != api.OK {
		t.Error("a log beside error", e)
	}
	return e
}

// sizes are right ones, and noSizes are none.
func sizes() []int   { return []int{64, 65, 1000, api.MaxDisk - 1, api.MaxDisk} }
func noSizes() []int { return []int{63, 0, -1, -64, math.MinInt, api.MaxDisk + 1, math.MaxInt} }

// P5.2: a new log, all of it safe.
func TestCreate(t *testing.T) {
	for _, size := range sizes() {
		for _, was := range []map[string]string{{}, {"s0": "left", "manifest.new": "left", "s00": "other", "x": "y"}} {
			d := diskOf(t, was)
			l := created(t, d, size)
			is(t, "created", l, state{pieces: "s0 0 0; ", d: d})
			want := maps.Clone(was)
			delete(want, "manifest.new")
			want["s0"], want["manifest"] = head(0), string(plainManifest(chain()))
			has(t, "created", d, want)
			d.Crash(nil)
			has(t, "crashed", d, want)
		}
	}
}

// P5.2: of several errors the first; what is refused turns nothing.
func TestCreateRefuses(t *testing.T) {
	for _, size := range noSizes() {
		d := diskOf(t, map[string]string{"manifest": "old"})
		wants(t, "size and manifest", create(t, d, size), api.ErrArg)
		wants(t, "size and power", create(t, down(d), size), api.ErrArg)
		wants(t, "size and no disk", create(t, nil, size), api.ErrArg)
		d = newDisk(t, 1000)
		wants(t, "size", create(t, d, size), api.ErrArg)
		has(t, "size", d, map[string]string{})
	}
	for _, size := range sizes() {
		wants(t, "no disk", create(t, nil, size), api.ErrNil)
		wants(t, "a disk of nobody's", create(t, &disk.Disk{}, size), api.ErrNil)
		d := newDisk(t, 1000)
		wants(t, "no power", create(t, down(d), size), api.ErrDown)
		d.Crash(nil)
		has(t, "no power", d, map[string]string{})
		for _, manifest := range []string{"", "x", string(plainManifest(chain()))} {
			was := map[string]string{"manifest": manifest, "s0": "old", "manifest.new": "left"}
			d := diskOf(t, was)
			d.Arm(0)
			wants(t, "a manifest", create(t, d, size), api.ErrLog)
			has(t, "a manifest", d, was)
			wants(t, "a manifest and no power", create(t, down(d), size), api.ErrDown)
		}
	}
}

// P5.2: the steps one by one, up to the first error.
func TestCreateStepByStep(t *testing.T) {
	b := string(plainManifest(chain()))
	for n, want := range []map[string]string{
		{"s0": "left", "manifest.new": "left"},
		{"manifest.new": "left"},
		{"s0": "", "manifest.new": "left"},
		{"s0": head(0), "manifest.new": "left"},
		{"s0": head(0)},
		{"s0": head(0), "manifest.new": ""},
		{"s0": head(0), "manifest.new": b},
		{"s0": head(0), "manifest": b},
	} {
		d := diskOf(t, map[string]string{"s0": "left", "manifest.new": "left"})
		d.Arm(n)
		if n < 7 {
			wants(t, "no power", create(t, d, 64), api.ErrDown)
		} else {
			wants(t, "power enough", create(t, d, 64), api.OK)
		}
		d.Crash(nil)
		has(t, "behind "+strconv.Itoa(n), d, want)
	}
	d := newDisk(t, 1000)
	d.Arm(5)
	wants(t, "nothing to remove", create(t, d, 64), api.OK)
	wants(t, "all is done", d.Sync("s0"), api.ErrDown)
}

// P5.2: a disk that is full.
func TestCreateFull(t *testing.T) {
	need := len(head(0)) + len(plainManifest(chain()))
	for most := range need + 1 {
		want := api.OK
		if most < need {
			want = api.ErrFull
		}
		wants(t, "a disk of "+strconv.Itoa(most), create(t, newDisk(t, most), 64), want)
	}
}

// resume tells the error of Resume, and fails if there is a log beside it.
func resume(t *testing.T, d *disk.Disk, size int, l []api.Piece, n int) api.Errno {
	t.Helper()
	out, e := Resume(d, size, l, n)
	if out != nil && e != api.OK {
		t.Error("a log beside error", e)
	}
	return e
}

// P5.2: a log of these pieces; its open piece's file is safe, and nothing else has turned.
func TestResume(t *testing.T) {
	for _, size := range sizes() {
		for _, pieces := range rights() {
			open := pieces[len(pieces)-1]
			for _, n := range []int{open.First, open.First + 1, 1<<61 - 1, 1 << 61} {
				d := newDisk(t, 1000)
				wants(t, "Append", d.Append(open.Name, []byte("xyz")), api.OK)
				l, e := Resume(d, size, pieces, n)
				wants(t, "Resume", e, api.OK)
				is(t, "resumed", l, state{n, n, false, words(pieces), d})
				d.Crash(nil)
				has(t, "resumed", d, map[string]string{open.Name: "xyz"})
			}
		}
	}
}

// P5.2: what is no argument, ahead of what the disk tells.
func TestResumeRefuses(t *testing.T) {
	d := newDisk(t, 1000)
	for _, on := range []*disk.Disk{nil, {}, d, down(newDisk(t, 1000))} {
		for _, size := range noSizes() {
			wants(t, "size", resume(t, on, size, chain(8), 8), api.ErrArg)
		}
		for _, l := range append(wrongs(), farWrongs()...) {
			for _, n := range []int{0, 1 << 61} {
				wants(t, "pieces", resume(t, on, 64, l, n), api.ErrArg)
			}
		}
		for _, n := range []int{7, 0, -1, math.MinInt, 1<<61 + 1, 1 << 62, math.MaxInt} {
			wants(t, "n", resume(t, on, 64, chain(8), n), api.ErrArg)
		}
		wants(t, "n below 0", resume(t, on, 64, chain(), -1), api.ErrArg)
	}
	has(t, "refused", d, map[string]string{})
}

// P5.2: what the disk tells.
func TestResumeOfADisk(t *testing.T) {
	wants(t, "no disk", resume(t, nil, 64, chain(8), 8), api.ErrNil)
	wants(t, "a disk of nobody's", resume(t, &disk.Disk{}, 64, chain(8), 8), api.ErrNil)
	wants(t, "no power", resume(t, down(diskOf(t, map[string]string{"s8": "x"})), 64, chain(8), 8), api.ErrDown)
	wants(t, "no file", resume(t, diskOf(t, map[string]string{"s0": "x", "manifest": "x"}), 64, chain(8), 8), api.ErrFile)
	d := diskOf(t, map[string]string{"s8": "x"})
	wants(t, "Append", d.Append("s8", []byte("y")), api.OK)
	d.Arm(0)
	wants(t, "no power to sync", resume(t, d, 64, chain(8), 8), api.ErrDown)
	d.Crash(nil)
	has(t, "crashed", d, map[string]string{"s8": "x"})
	d.Arm(1)
	wants(t, "power enough", resume(t, d, 64, chain(8), 8), api.OK)
	if d.Down() {
		t.Error("more than one operation")
	}
}

// P5.2, P5.4, R3: the pieces that are handed in and out are neither kept nor shared.
func TestPiecesAreNotShared(t *testing.T) {
	pieces, unchanged := roomy(t, chain(8, 9), api.Piece{Name: "x"})
	l := resumed(t, 64, pieces, 20, head(17))
	const want = "s0 0 8; s8 8 9; s17 17 0; "
	one, other := l.Pieces(), l.Pieces()
	clear(one[:cap(one)])
	wants(t, "Append", l.Append(some(9, 1)...), api.OK)
	wants(t, "Append", l.Append(some(9, 1)...), api.OK)
	wants(t, "Append", l.Append(some(9, 1)...), api.OK)
	if words(other) != want || words(l.Pieces()) == want {
		t.Error(words(other), "is shared", words(l.Pieces()))
	}
	unchanged()

	l = resumed(t, 64, pieces, 20, head(17))
	clear(pieces)
	if words(l.Pieces()) != want {
		t.Error("the log has kept", words(l.Pieces()))
	}
	wants(t, "Swap", l.Swap(other[:2]), api.OK)
	clear(other)
	if words(l.Pieces()) != want {
		t.Error("the log has kept", words(l.Pieces()))
	}
}

// P5.3: the chapter's example.
func TestAppendExample(t *testing.T) {
	l := newLog(t, 64)
	d := l.Disk()
	if !slices.Equal(d.List(), []string{"manifest", "s0"}) {
		t.Error(d.List())
	}
	wants(t, "Append", l.Append(api.Event{}), api.OK)
	is(t, "one event", l, state{1, 0, false, "s0 0 0; ", d})
	wants(t, "Sync", l.Sync(), api.OK)
	is(t, "one that is safe", l, state{1, 1, false, "s0 0 0; ", d})
	for d.Size("s0") < 64 {
		wants(t, "Append", l.Append(api.Event{}), api.OK)
		if l.Acked() != 1 {
			t.Error(l.Acked(), "acknowledged")
		}
	}
	n := l.Len()
	wants(t, "Append", l.Append(api.Event{}, api.Event{}), api.OK)
	is(t, "another segment", l, state{n + 2, n, false, words(chain(n)), d})
	name := "s" + strconv.Itoa(n)
	if !slices.Equal(d.List(), []string{"manifest", "s0", name}) {
		t.Error(d.List())
	}
}

// model is a log as the chapter's words have it: its files' bytes, and what it tells.
type model struct {
	size, count, acked int
	pieces             []api.Piece
	files              map[string]string
	safe               map[string]string // the files behind a crash
}

func newModel(size int) *model {
	m := &model{size: size, pieces: chain(), files: map[string]string{"s0": head(0)}}
	m.install()
	return m
}

func (m *model) open() *api.Piece { return &m.pieces[len(m.pieces)-1] }

func (m *model) install() {
	m.files["manifest"] = string(plainManifest(m.pieces))
	m.safe = maps.Clone(m.files)
}

func (m *model) append(l []api.Event) {
	open := m.open()
	if m.count > open.First && len(m.files[open.Name]) >= m.size {
		m.acked = m.count
		open.Count = m.count - open.First
		m.pieces = append(m.pieces, api.Piece{Name: "s" + strconv.Itoa(m.count), First: m.count})
		m.files[m.open().Name] = head(m.count)
		m.install()
	}
	m.files[m.open().Name] += frame(l)
	m.count += len(l)
}

func (m *model) sync() {
	m.acked = m.count
	m.safe = maps.Clone(m.files)
}

// P5.3: the files and what the log tells are as the chapter's words have them, whatever is appended.
func TestAppend(t *testing.T) {
	for _, size := range []int{64, 65, 100, 1000, api.MaxDisk} {
		for seed := range 20 {
			l, m := newLog(t, size), newModel(size)
			for i := range 60 {
				more := some(1+(i*seed+i*i)%7, i*seed)
				wants(t, "Append", l.Append(more...), api.OK)
				m.append(more)
				if (i*7+seed)%11 == 0 {
					wants(t, "Sync", l.Sync(), api.OK)
					m.sync()
				}
				is(t, "appended", l, state{m.count, m.acked, false, words(m.pieces), l.Disk()})
			}
			has(t, "appended", l.Disk(), m.files)
			l.Disk().Crash(nil)
			has(t, "crashed", l.Disk(), m.safe)
		}
	}
}

// P5.3: the next segment begins just at size bytes, if there are events.
func TestAppendAtTheEdge(t *testing.T) {
	e := some(1, 3)
	for _, x := range []struct {
		bytes, n int
		another  bool
	}{{69, 8, false}, {69, 9, false}, {70, 8, false}, {70, 9, true}, {71, 9, true}, {5000, 8, false}, {5000, 9, true}, {0, 9, false}} {
		open := string(make([]byte, x.bytes))
		l := resumed(t, 70, chain(8), x.n, open)
		d := l.Disk()
		wants(t, "Append", l.Append(e...), api.OK)
		if x.another {
			is(t, "another", l, state{x.n + 1, x.n, false, words(chain(8, x.n-8)), d})
			has(t, "another", d, map[string]string{"s8": open, "s9": head(9) + frame(e), "manifest": string(plainManifest(chain(8, x.n-8)))})
			continue
		}
		is(t, "the same", l, state{x.n + 1, x.n, false, words(chain(8)), d})
		has(t, "the same", d, map[string]string{"s8": open + frame(e), "manifest": string(plainManifest(chain(8)))})
	}
}

// P5.3: one frame may be far greater than a segment; the next one finds another segment.
func TestAppendMuch(t *testing.T) {
	l := newLog(t, 64)
	much := some(api.MaxEvents, 5)
	wants(t, "as many as a frame has", l.Append(much...), api.OK)
	wants(t, "one more", l.Append(some(1, 1)...), api.OK)
	is(t, "both", l, state{api.MaxEvents + 1, api.MaxEvents, false, words(chain(api.MaxEvents)), l.Disk()})
	has(t, "both", l.Disk(), map[string]string{"s0": head(0) + frame(much), "s4096": head(4096) + frame(some(1, 1)), "manifest": string(plainManifest(chain(4096)))})
}

// P5.3: the log counts its open file's bytes itself.
func TestAppendCountsItself(t *testing.T) {
	l := newLog(t, 64)
	wants(t, "Append", l.Append(some(9, 5)...), api.OK)
	wants(t, "Append", l.Append(some(9, 5)...), api.OK)
	wants(t, "Cut", l.Disk().Cut("s0", 0), api.OK)
	wants(t, "Append", l.Append(some(1, 1)...), api.OK)
	is(t, "cut by somebody", l, state{19, 18, false, words(chain(18)), l.Disk()})

	wants(t, "Append", l.Disk().Append("s18", make([]byte, 500)), api.OK)
	wants(t, "Append", l.Append(some(1, 1)...), api.OK)
	is(t, "made longer by somebody", l, state{20, 18, false, words(chain(18)), l.Disk()})
}

// P5.3: a file that stands where the new segment comes to be is taken away.
func TestAppendOverWhatIsLeft(t *testing.T) {
	l := resumed(t, 64, chain(8), 9, string(make([]byte, 64)))
	d := l.Disk()
	wants(t, "Append", d.Append("s9", []byte("left by an earlier life")), api.OK)
	wants(t, "Append", d.Append("manifest.new", []byte("left, too")), api.OK)
	wants(t, "Append", l.Append(some(1, 1)...), api.OK)
	has(t, "nothing is left", d, map[string]string{"s8": string(make([]byte, 64)), "s9": head(9) + frame(some(1, 1)), "manifest": string(plainManifest(chain(8, 1)))})
}

// P5.3: what has no frame is refused, and nothing has changed by it; a full piece neither.
func TestAppendRefuses(t *testing.T) {
	l := resumed(t, 64, chain(8), 9, string(make([]byte, 64)))
	d := l.Disk()
	was, files := stateOf(l), read(t, d)
	d.Arm(0)
	wants(t, "none", l.Append(), api.ErrArg)
	wants(t, "none", l.Append([]api.Event{}...), api.ErrArg)
	wants(t, "too many", l.Append(make([]api.Event, api.MaxEvents+1)...), api.ErrLong)
	is(t, "refused", l, was)
	has(t, "refused", d, files)
	wants(t, "no power", l.Append(api.Event{}), api.ErrDown)
	wants(t, "ended, and none", l.Append(), api.ErrEnded)
	wants(t, "ended, and too many", l.Append(make([]api.Event, api.MaxEvents+1)...), api.ErrEnded)
}

// P5.3, R3: the events that are handed in stay, and are not kept.
func TestAppendLeavesWhatIsHandedIn(t *testing.T) {
	l := newLog(t, 64)
	e, unchanged := roomy(t, some(5, 1), api.Event{A: 9})
	wants(t, "Append", l.Append(e...), api.OK)
	unchanged()
	clear(e)
	has(t, "appended", l.Disk(), map[string]string{"s0": head(0) + frame(some(5, 1)), "manifest": string(plainManifest(chain()))})
}

// ends fails unless the log is over: it takes nothing any more, tells the same as ahead, and leaves the disk alone.
func ends(t *testing.T, what string, l *Log) {
	t.Helper()
	was := stateOf(l)
	if !was.over {
		t.Error(what, "is not over")
	}
	d := l.Disk()
	d.Crash(slices.Repeat([]int{100000}, api.MaxFiles))
	files := read(t, d)
	d.Arm(0)
	for range 2 {
		wants(t, what+", Append", l.Append(api.Event{}), api.ErrEnded)
		wants(t, what+", Sync", l.Sync(), api.ErrEnded)
		wants(t, what+", Swap", l.Swap(l.Pieces()[:len(l.Pieces())-1]), api.ErrEnded)
		wants(t, what+", a wrong Swap", l.Swap(chain(1, 2, 3, 4)), api.ErrEnded)
	}
	is(t, what, l, was)
	has(t, what, d, files)
}

// P5.3: there are MaxPieces pieces at most; the sync is not done then.
func TestAppendManyPieces(t *testing.T) {
	l := newLog(t, 64)
	m := newModel(64)
	for len(m.pieces) < 100 || len(m.files[m.open().Name]) < 64 {
		more := some(4, m.count)
		wants(t, "Append", l.Append(more...), api.OK)
		m.append(more)
	}
	is(t, "all pieces", l, state{m.count, m.acked, false, words(m.pieces), l.Disk()})
	if m.acked == m.count || len(l.Pieces()) != 100 {
		t.Fatal(m.acked, len(l.Pieces()))
	}
	wants(t, "one more", l.Append(api.Event{}), api.ErrFull)
	is(t, "full", l, state{m.count, m.acked, true, words(m.pieces), l.Disk()})
	has(t, "full", l.Disk(), m.files)
	if d := l.Disk(); d.Synced(m.open().Name) == d.Size(m.open().Name) {
		t.Error("synced")
	}
	ends(t, "full", l)
}

// P5.3: the steps of another segment one by one, up to the first error; what was done stays.
func TestAppendStepByStep(t *testing.T) {
	full := head(8) + frames(some(3, 1)) + frames(some(3, 4))
	before, behind := string(plainManifest(chain(8))), string(plainManifest(chain(8, 6)))
	e := some(2, 9)
	safe := head(8) + frames(some(3, 1))
	for n, x := range []struct {
		acked  int
		pieces []api.Piece
		files  map[string]string
	}{
		{11, chain(8), map[string]string{"s8": safe, "s14": "left", "manifest.new": "left", "manifest": before}},
		{14, chain(8), map[string]string{"s8": full, "s14": "left", "manifest.new": "left", "manifest": before}},
		{14, chain(8), map[string]string{"s8": full, "manifest.new": "left", "manifest": before}},
		{14, chain(8), map[string]string{"s8": full, "s14": "", "manifest.new": "left", "manifest": before}},
		{14, chain(8), map[string]string{"s8": full, "s14": head(14), "manifest.new": "left", "manifest": before}},
		{14, chain(8), map[string]string{"s8": full, "s14": head(14), "manifest": before}},
		{14, chain(8), map[string]string{"s8": full, "s14": head(14), "manifest.new": "", "manifest": before}},
		{14, chain(8), map[string]string{"s8": full, "s14": head(14), "manifest.new": behind, "manifest": before}},
		{14, chain(8, 6), map[string]string{"s8": full, "s14": head(14), "manifest": behind}},
	} {
		l := resumed(t, 70, chain(8), 11, safe)
		for _, more := range some(3, 4) {
			wants(t, "Append", l.Append(more), api.OK)
		}
		d := l.Disk()
		for _, name := range []string{"s14", "manifest.new"} {
			wants(t, "Append", d.Append(name, []byte("left")), api.OK)
			wants(t, "Sync", d.Sync(name), api.OK)
		}
		d.Arm(n)
		what := "behind " + strconv.Itoa(n)
		wants(t, what, l.Append(e...), api.ErrDown)
		is(t, what, l, state{14, x.acked, true, words(x.pieces), d})
		d.Crash(nil)
		has(t, what, d, x.files)
		ends(t, what, l)
	}
}

// P5.3: pieces that would not be right any more are not installed.
func TestAppendOfNoRightPieces(t *testing.T) {
	most := 1 << 40
	full := string(make([]byte, 64))
	l := resumed(t, 64, chain(8), 8+most, full)
	wants(t, "as many as may be", l.Append(api.Event{}), api.OK)
	is(t, "as many as may be", l, state{9 + most, 8 + most, false, words(chain(8, most)), l.Disk()})

	l = resumed(t, 64, chain(8), 9+most, full)
	wants(t, "more than may be", l.Append(api.Event{}), api.ErrLog)
	is(t, "more than may be", l, state{9 + most, 9 + most, true, words(chain(8)), l.Disk()})
	ends(t, "more than may be", l)

	l = resumed(t, 64, named(chain(8), 0, "s9"), 9, full)
	wants(t, "a name that is taken", l.Append(api.Event{}), api.ErrLog)
	is(t, "a name that is taken", l, state{9, 9, true, words(named(chain(8), 0, "s9")), l.Disk()})
	ends(t, "a name that is taken", l)
}

// P5.3: on a disk that is full nothing is acknowledged that is not safe.
func TestAppendFull(t *testing.T) {
	for most := 60; most < 300; most++ {
		l := created(t, newDisk(t, most), 64)
		m := newModel(64)
		for i := 0; ; i++ {
			more := some(1+i%3, i)
			e := l.Append(more...)
			if e != api.OK {
				wants(t, "full", e, api.ErrFull)
				break
			}
			m.append(more)
			if i%4 == 1 {
				wants(t, "Sync", l.Sync(), api.OK)
				m.sync()
			}
		}
		if l.Len() != m.count || l.Acked() < m.acked || l.Acked() > m.count {
			t.Error(most, stateOf(l), m.acked)
		}
		if acked := l.Acked(); acked > m.acked && acked != m.count {
			t.Error(most, acked)
		}
		ends(t, "full", l)
	}
}

// P5.3: the chapter's example: ErrFull, then ErrEnded; what is acknowledged stays.
func TestAppendFullExample(t *testing.T) {
	l := created(t, newDisk(t, 50), 64)
	wants(t, "Append", l.Append(api.Event{}), api.OK)
	wants(t, "Sync", l.Sync(), api.OK)
	wants(t, "Append", l.Append(api.Event{}), api.OK)
	wants(t, "too much", l.Append(api.Event{}), api.ErrFull)
	wants(t, "again", l.Append(api.Event{}), api.ErrEnded)
	wants(t, "Sync", l.Sync(), api.ErrEnded)
	is(t, "full", l, state{2, 1, true, "s0 0 0; ", l.Disk()})
	ends(t, "full", l)
}

// P5.3: all events are acknowledged, with those of pieces that are sealed, by one operation.
func TestSync(t *testing.T) {
	l := newLog(t, 64)
	d := l.Disk()
	for n := range 30 {
		wants(t, "Sync", l.Sync(), api.OK)
		is(t, "synced", l, state{n, n, false, words(l.Pieces()), d})
		files := read(t, d)
		d.Crash(nil)
		has(t, "synced", d, files)
		wants(t, "Append", l.Append(some(1, n)...), api.OK)
	}
	d.Arm(1)
	wants(t, "Sync", l.Sync(), api.OK)
	wants(t, "Sync again", l.Sync(), api.ErrDown)
	is(t, "no power", l, state{30, 30, true, words(l.Pieces()), d})
	ends(t, "no power", l)
}

// P5.3: a sync that fails acknowledges nothing.
func TestSyncFails(t *testing.T) {
	l := newLog(t, 64)
	wants(t, "Append", l.Append(some(3, 1)...), api.OK)
	down(l.Disk())
	wants(t, "no power", l.Sync(), api.ErrDown)
	is(t, "no power", l, state{3, 0, true, "s0 0 0; ", l.Disk()})
	ends(t, "no power", l)

	l = newLog(t, 64)
	wants(t, "Append", l.Append(some(3, 1)...), api.OK)
	wants(t, "Remove", l.Disk().Remove("s0"), api.OK)
	wants(t, "no file", l.Sync(), api.ErrFile)
	is(t, "no file", l, state{3, 0, true, "s0 0 0; ", l.Disk()})
	ends(t, "no file", l)
}

// P5.3: other pieces in the place of the sealed ones; nothing else turns.
func TestSwap(t *testing.T) {
	dense := []api.Piece{{Name: "d17", Count: 17, Dense: true}}
	for _, sealed := range [][]api.Piece{dense, chain(8, 9)[:2], chain(17)[:1], chain(1, 16)[:2], chain(slices.Repeat([]int{1}, 17)...)[:17]} {
		l := resumed(t, 64, chain(8, 9), 20, head(17))
		d := l.Disk()
		wants(t, "Append", l.Append(some(1, 1)...), api.OK)
		want := append(slices.Clone(sealed), api.Piece{Name: "s17", First: 17})
		handed, unchanged := roomy(t, sealed, api.Piece{Name: "x"})
		wants(t, "Swap", l.Swap(handed), api.OK)
		unchanged()
		is(t, "swapped", l, state{21, 20, false, words(want), d})
		has(t, "swapped", d, map[string]string{"s17": head(17) + frame(some(1, 1)), "manifest": string(plainManifest(want))})
		wants(t, "Sync", l.Sync(), api.OK)
		wants(t, "Append", l.Append(some(9, 1)...), api.OK)
	}
	l := newLog(t, 64)
	wants(t, "none", l.Swap(nil), api.OK)
	wants(t, "none", l.Swap([]api.Piece{}), api.OK)
	is(t, "none", l, state{0, 0, false, "s0 0 0; ", l.Disk()})
}

// P5.3: the log goes on behind a swap: the next segment comes behind the pieces that are there now.
func TestAppendBehindSwap(t *testing.T) {
	l := newLog(t, 64)
	for range 3 {
		wants(t, "Append", l.Append(some(20, 1)...), api.OK)
	}
	dense := []api.Piece{{Name: "d40", Count: 40, Dense: true}}
	wants(t, "Swap", l.Swap(dense), api.OK)
	wants(t, "Append", l.Append(some(20, 1)...), api.OK)
	is(t, "behind it", l, state{80, 60, false, "d40 0 40 dense; s40 40 20; s60 60 0; ", l.Disk()})
}

// P5.3: pieces that are not right with the open one are refused, and the log is not over.
func TestSwapRefuses(t *testing.T) {
	l := resumed(t, 64, chain(8, 11), 20, head(19))
	d := l.Disk()
	was, files := stateOf(l), read(t, d)
	d.Arm(0)
	for _, sealed := range append(append(wrongs(), farWrongs()...),
		nil, chain(8, 11), chain(8)[:1], chain(8, 12)[:2], chain(8, 10)[:2], chain(19),
		named(chain(19)[:1], 0, "s19"), named(chain(19)[:1], 0, "manifest"), named(chain(19)[:1], 0, "S"),
		chain(slices.Repeat([]int{1}, 19)...), changed(chain(19)[:1], 0, func(p *api.Piece) { p.First = 1 }),
	) {
		if e := l.Swap(sealed); e != api.ErrLog {
			t.Fatal(words(sealed), e)
		}
		is(t, "wrong pieces", l, was)
	}
	has(t, "wrong pieces", d, files)

	many := chain(slices.Repeat([]int{1}, 100)...)
	l = resumed(t, 64, chain(99), 100, "")
	wants(t, "99 pieces", l.Swap(many[:99]), api.OK)
	l = resumed(t, 64, chain(100), 100, "")
	wants(t, "100 pieces", l.Swap(many[:100]), api.ErrLog)
	if l.Over() {
		t.Error("over")
	}
}

// P5.3: a swap that fails leaves the pieces as they were, and the log is over.
func TestSwapStepByStep(t *testing.T) {
	dense := []api.Piece{{Name: "d17", Count: 17, Dense: true}}
	for n := range 4 {
		l := resumed(t, 64, chain(8, 9), 20, head(17))
		d := l.Disk()
		wants(t, "Append", d.Append("manifest.new", []byte("left")), api.OK)
		wants(t, "Append", l.Append(some(1, 1)...), api.OK)
		d.Arm(n)
		wants(t, "Swap", l.Swap(dense), api.ErrDown)
		is(t, "behind "+strconv.Itoa(n), l, state{21, 20, true, words(chain(8, 9)), d})
		d.Crash(nil)
		if got := read(t, d)["manifest"]; got != string(plainManifest(chain(8, 9))) {
			t.Error(n, "another manifest")
		}
		ends(t, "behind "+strconv.Itoa(n), l)
	}
}

// P5.3, P5.4, R5: a log that neither Create nor Resume made.
func TestNoLog(t *testing.T) {
	for _, l := range []*Log{nil, {}} {
		for range 2 {
			wants(t, "Append", l.Append(api.Event{}), api.ErrNil)
			wants(t, "Append of none", l.Append(), api.ErrNil)
			wants(t, "Append of many", l.Append(make([]api.Event, api.MaxEvents+1)...), api.ErrNil)
			wants(t, "Sync", l.Sync(), api.ErrNil)
			wants(t, "Swap", l.Swap(nil), api.ErrNil)
			wants(t, "Swap of wrong pieces", l.Swap(chain(0)), api.ErrNil)
			is(t, "no log", l, state{})
		}
	}
}
