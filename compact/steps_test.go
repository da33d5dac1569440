package compact

import (
	"slices"
	"strconv"
	"testing"

	"amanuensis/api"
	"amanuensis/recover"
)

// afterEach are the files of the example's log, beside which is an old d17: ahead of Compact and behind each of its operations.
func afterEach() []map[string]string {
	p := threePieces()
	new := p.compacted().files
	out := []map[string]string{with(p.files, "d17", "old")}
	add := func(files map[string]string) { out = append(out, files) }
	last := func() map[string]string { return out[len(out)-1] }
	add(p.files)
	add(with(last(), "d17", new["d17"]))
	add(last())
	add(with(last(), "manifest.new", new["manifest"]))
	add(last())
	add(with(p.files, "d17", new["d17"]))
	last()["manifest"] = new["manifest"]
	add(without(last(), "s0"))
	add(without(last(), "s8"))
	return out
}

// P7.1, P7.2: each step without power: what was done, what the log says of itself, what is left behind a crash that keeps nothing.
func TestStepByStep(t *testing.T) {
	p, want := threePieces(), afterEach()
	for n, files := range want {
		what := "behind " + strconv.Itoa(n)
		l := p.log(t)
		lay(t, l.Disk(), map[string]string{"d17": "old"})
		l.Disk().Arm(n)
		if n == len(want)-1 {
			merges(t, what, l, 2)
			p.compacted().is(t, what, l, nil)
			continue
		}
		refuses(t, what, l, api.ErrDown)
		pieces := p.pieces
		if n >= 6 {
			pieces = p.compacted().pieces
		}
		// The last one is installed by three operations, within Swap.
		isOver := n >= 3 && n < 6
		if !slices.Equal(l.Pieces(), pieces) || l.Over() != isOver || l.Len() != len(p.events) {
			t.Error(what, l.Pieces(), l.Over(), l.Len())
		}
		l.Disk().Crash(slices.Repeat([]int{1000}, 9))
		has(t, what, l.Disk(), files)
		l.Disk().Crash(nil)
		events, told, e := recover.Scan(l.Disk())
		if !slices.Equal(events, p.events) || !slices.Equal(told, pieces) || e != api.OK {
			t.Error(what, events, told, e)
		}
	}
}

// P7.1: what an operation finds is safe, or not, behind a crash that keeps nothing: the new file is safe ahead of the manifest.
func TestWhatIsSafeAtEachStep(t *testing.T) {
	p := threePieces()
	size := len(p.compacted().files["d17"])
	for n, want := range []int{3, 0, 0, size, size, size, size, size} {
		l := p.log(t)
		lay(t, l.Disk(), map[string]string{"d17": "old"})
		l.Disk().Arm(n)
		refuses(t, "behind "+strconv.Itoa(n), l, api.ErrDown)
		l.Disk().Crash(nil)
		if got := l.Disk().Size("d17"); got != want {
			t.Error(n, "d17 has", got, "bytes, not", want)
		}
	}
}

// P7.1: a call that lost its power is made again when it is back: a log that is not over goes on with it, and the others when they are opened.
func TestOnceMoreBehindACrash(t *testing.T) {
	p := threePieces()
	for n := range len(afterEach()) - 1 {
		what := "behind " + strconv.Itoa(n)
		l := p.log(t)
		l.Disk().Arm(n)
		Compact(l)
		l.Disk().Crash([]int{5, 5, 5, 5, 5})
		if l.Over() {
			l, _, _ = recover.Open(l.Disk(), 64)
		}
		if _, e := Compact(l); e != api.OK {
			t.Error(what, e)
		}
		_, _, e := recover.Mend(l.Disk())
		wants(t, what, e, api.OK)
		p.compacted().is(t, what, l, nil)
	}
}

// P7.1: a disk that is too full for the new file: the log has what it had, and goes on.
func TestNoRoomForTheFile(t *testing.T) {
	p := threePieces()
	used := p.used()
	for more := range len(p.compacted().files["d17"]) {
		l := p.resumed(t, newDisk(t, used+more))
		refuses(t, "full", l, api.ErrFull)
		p.is(t, "full", l, nil)
	}
	l := p.resumed(t, newDisk(t, used+3))
	lay(t, l.Disk(), map[string]string{"d17": "old"})
	refuses(t, "full with an old one", l, api.ErrFull)
	p.is(t, "full with an old one", l, nil)
	many := p.log(t)
	for n := 0; many.Disk().Append("f"+strconv.Itoa(n), nil) == api.OK; n++ {
	}
	refuses(t, "as many files as may be", many, api.ErrFull)
	if many.Over() || !slices.Equal(many.Pieces(), p.pieces) || len(many.Disk().List()) != api.MaxFiles {
		t.Error(many.Over(), many.Pieces(), len(many.Disk().List()))
	}
}

// used tells how many bytes the log's files have.
func (p plan) used() int {
	n := 0
	for _, b := range p.files {
		n += len(b)
	}
	return n
}

// P7.1: a disk that is too full for the new manifest: Swap's error, by which the log is over.
func TestNoRoomForTheManifest(t *testing.T) {
	p := threePieces()
	new := p.compacted().files
	used := p.used() + len(new["d17"])
	for more := range len(new["manifest"]) + 1 {
		l := p.resumed(t, newDisk(t, used+more))
		if more == len(new["manifest"]) {
			merges(t, "just enough", l, 2)
			p.compacted().is(t, "just enough", l, nil)
			continue
		}
		refuses(t, "full", l, api.ErrFull)
		has(t, "full", l.Disk(), with(p.files, "d17", new["d17"]))
		if !l.Over() || !slices.Equal(l.Pieces(), p.pieces) {
			t.Error(l.Over(), l.Pieces())
		}
		refuses(t, "over", l, api.ErrEnded)
	}
}

// P7.1, P7.2: a sealed piece that has the new file's name already: it is merged all the same, and no crash finds neither.
func TestASealedPieceOfThatName(t *testing.T) {
	for _, p := range []plan{
		planOf([]string{"d5", "s3", "s5"}, []int{3, 2, 2}),
		planOf([]string{"s0", "d5", "s5"}, []int{3, 2, 2}),
		planOf([]string{"a", "d9", "b", "c"}, []int{3, 2, 4, 0}),
		fiveSealed(),
	} {
		l := p.log(t)
		merges(t, "a sealed one of that name", l, len(p.pieces)-1)
		p.compacted().is(t, "a sealed one of that name", l, nil)
		others := map[string]string{"d5.0": "a", "d9.0": "b", "d5.1": "c", "d9.2": "d"}
		for n, done := 0, false; !done; n++ {
			l := p.log(t)
			lay(t, l.Disk(), others)
			l.Disk().Arm(n)
			_, e := Compact(l)
			done = e == api.OK
			if !done {
				wants(t, "without power", e, api.ErrDown)
			}
			l.Disk().Crash([]int{n, n, n, n, n, n, n, n})
			events, _, e := recover.Scan(l.Disk())
			if !slices.Equal(events, p.events) || e != api.OK {
				t.Error("behind", n, events, e)
			}
			for name, b := range others {
				if l.Disk().Size(name) != len(b) {
					t.Error("behind", n, name, "is gone")
				}
			}
		}
	}
}

// fiveSealed is a log of one sealed segment whose name is that of the dense one.
func fiveSealed() plan {
	p := planOf([]string{"x", "s5"}, []int{5, 2})
	p.pieces[0].Name = "d5"
	p.files["d5"] = p.files["x"]
	delete(p.files, "x")
	p.files["manifest"] = manifest(p.pieces)
	return p
}

// P7.1, P7.2: an open piece that has the new file's name: Swap would find two alike, and nothing is changed.
func TestAnOpenPieceOfThatName(t *testing.T) {
	p := planOf([]string{"s0", "s3", "x"}, []int{3, 2, 2})
	p.pieces[2].Name = "d5"
	p.files["d5"] = p.files["x"]
	delete(p.files, "x")
	p.files["manifest"] = manifest(p.pieces)
	l := p.log(t)
	l.Disk().Arm(0)
	refuses(t, "the open one", l, api.ErrLog)
	p.is(t, "the open one", l, nil)
}
