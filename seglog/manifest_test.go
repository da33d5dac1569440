package seglog

import (
	"encoding/binary"
	"hash/crc32"
	"maps"
	"math"
	"slices"
	"strconv"
	"strings"
	"testing"

	"amanuensis/api"
	"amanuensis/disk"
)

// sealed puts its sum behind b.
func sealed(b []byte) []byte {
	return binary.BigEndian.AppendUint32(slices.Clone(b), crc32.ChecksumIEEE(b))
}

// plainPiece is what the chapter's words have as the bytes of one piece.
func plainPiece(p api.Piece) []byte {
	out := append(binary.AppendUvarint(nil, uint64(len(p.Name))), p.Name...)
	out = binary.AppendUvarint(binary.AppendUvarint(out, uint64(p.First)), uint64(p.Count))
	if p.Dense {
		return append(out, 1)
	}
	return append(out, 0)
}

// plainBody is what the chapter's words have ahead of a manifest's sum, whatever the pieces are.
func plainBody(l []api.Piece) []byte {
	out := binary.AppendUvarint([]byte{65, 77, 77, 49}, uint64(len(l)))
	for _, p := range l {
		out = append(out, plainPiece(p)...)
	}
	return out
}

// plainManifest is what the chapter's words have as a manifest's bytes, whatever the pieces are.
func plainManifest(l []api.Piece) []byte {
	return sealed(plainBody(l))
}

// chain gives pieces of these counts, and an open one behind them.
func chain(counts ...int) []api.Piece {
	var out []api.Piece
	first := 0
	for _, n := range append(counts, 0) {
		out = append(out, api.Piece{Name: "s" + strconv.Itoa(first), First: first, Count: n})
		first += n
	}
	return out
}

// changed gives the pieces with one of them changed.
func changed(l []api.Piece, i int, change func(p *api.Piece)) []api.Piece {
	l = slices.Clone(l)
	change(&l[i])
	return l
}

// named gives the pieces with another name of one of them.
func named(l []api.Piece, i int, name string) []api.Piece {
	return changed(l, i, func(p *api.Piece) { p.Name = name })
}

// rightNames are names that a piece may have.
func rightNames() []string {
	return []string{"a", "z", "0", "9", ".", "-", "..", "manifes", "manifest.", "manifest-new", "manifest.newer", "newmanifest", "manifest.ne", "m", "d17", strings.Repeat("z", 40)}
}

// wrongNames are names that no piece may have.
func wrongNames() []string {
	out := []string{"", "manifest", "manifest.new", strings.Repeat("z", 41), strings.Repeat("z", 300), "A", "Z", "s 0", " ", "s_0", "a/b", "ä", "s\x00", "\xff", "s\n", "`", "{", "/", ":", ","}
	return append(out, "manifest\x00", "Manifest")
}

// rights are lists of pieces that are right.
func rights() [][]api.Piece {
	dense := func(p *api.Piece) { p.Dense = true }
	out := [][]api.Piece{
		chain(),
		chain(1),
		chain(8, 9),
		chain(1<<40, 1, 1<<40),
		chain(slices.Repeat([]int{1}, 99)...),
		chain(slices.Repeat([]int{1 << 40}, 99)...),
		changed(chain(8, 9), 0, dense),
		changed(chain(8, 9), 1, dense),
		changed(changed(chain(8, 9), 0, dense), 1, dense),
	}
	for _, name := range rightNames() {
		out = append(out, named(chain(), 0, name), named(chain(7, 300), 0, name), named(chain(7, 300), 1, name), named(chain(7, 300), 2, name))
	}
	return out
}

// wrongs are lists of pieces that are not right, though a manifest's bytes may tell them: their numbers are from 0 to 2^62, their names of 40 bytes at most.
func wrongs() [][]api.Piece {
	count := func(n int) func(p *api.Piece) { return func(p *api.Piece) { p.Count = n } }
	first := func(n int) func(p *api.Piece) { return func(p *api.Piece) { p.First = n } }
	dense := func(p *api.Piece) { p.Dense = true }
	out := [][]api.Piece{
		nil,
		{},
		chain(slices.Repeat([]int{1}, 100)...),
		chain(slices.Repeat([]int{1}, 200)...),
		changed(chain(), 0, dense),
		changed(chain(8, 9), 2, dense),
		chain(8, 9)[:2],
		chain(8, 9)[1:],
		append(chain(8, 9), chain()...),
		append(chain(), chain(8)...),
		chain(0),
		named(chain(0), 1, "other"),
		chain(5, 1<<40+1, 5),
		chain(1<<40 + 1),
		changed(chain(), 0, count(1)),
		changed(chain(8, 9), 2, count(1)),
		changed(chain(8, 9), 2, count(1<<62)),
		changed(chain(8, 9), 0, count(1<<62)),
		changed(chain(), 0, first(1)),
		changed(chain(), 0, first(1<<62)),
		named(chain(8, 9), 1, "s0"),
		named(chain(8, 9), 2, "s8"),
		named(chain(8, 9), 2, "s0"),
		named(chain(1, 1, 1, 1, 1, 1, 1), 0, "s7"),
		slices.Repeat(chain(), 2),
	}
	for i := range 3 {
		was := chain(8, 9)[i].First
		for _, n := range []int{0, 1, was - 1, was + 1, 2*was + 2, 1 << 62} {
			if n >= 0 && n != was {
				out = append(out, changed(chain(8, 9), i, first(n)))
			}
		}
		for _, name := range wrongNames() {
			if len(name) <= 40 {
				out = append(out, named(chain(8, 9), i, name))
			}
		}
	}
	return out
}

// farWrongs are lists of pieces that are not right, and that no manifest's bytes tell.
func farWrongs() [][]api.Piece {
	var out [][]api.Piece
	for i := range 3 {
		for _, n := range []int{-1, -9, 1<<62 + 1, math.MinInt, math.MaxInt} {
			out = append(out, changed(chain(8, 9), i, func(p *api.Piece) { p.First = n }))
			out = append(out, changed(chain(8, 9), i, func(p *api.Piece) { p.Count = n }))
			out = append(out, changed(changed(chain(8, 9), i, func(p *api.Piece) { p.Count = n }), min(i+1, 2), func(p *api.Piece) { p.First += n }))
		}
		out = append(out, named(chain(8, 9), i, strings.Repeat("z", 41)), named(chain(8, 9), i, strings.Repeat("z", 300)))
	}
	return append(out,
		chain(-1), chain(5, -5), chain(8, -1, 9), chain(math.MinInt), chain(math.MaxInt, 1), chain(math.MaxInt, 1, math.MaxInt),
		chain(math.MaxInt, math.MaxInt, 2), chain(slices.Repeat([]int{1 << 62}, 4)...))
}

// roomy gives a copy of l with spare room behind it, and a call that fails if l or that room has changed.
func roomy[E comparable](t *testing.T, l []E, other E) ([]E, func()) {
	all := append(slices.Clone(l), slices.Repeat([]E{other}, 60)...)
	was := slices.Clone(all)
	return all[:len(l)], func() {
		t.Helper()
		if !slices.Equal(all, was) {
			t.Error("what was handed in has changed")
		}
	}
}

// P5.1: which pieces are right.
func TestRight(t *testing.T) {
	for _, l := range rights() {
		if !Right(l) {
			t.Error("not right:", l)
		}
	}
	for _, l := range append(wrongs(), farWrongs()...) {
		if Right(l) {
			t.Error("right:", l)
		}
	}
}

// P5.1: each byte may stand in a name just if a file's name may have it.
func TestRightNames(t *testing.T) {
	for x := range 256 {
		name := "s" + string([]byte{byte(x)}) + "0"
		d, _ := disk.New(9)
		want := d.Append(name, nil) == api.OK
		if got := Right(named(chain(8), 0, name)); got != want {
			t.Error(strconv.Quote(name), got)
		}
	}
}

// P5.1: a manifest's bytes; ErrLog of pieces that are not right.
func TestManifest(t *testing.T) {
	l := []api.Piece{{Name: "d300", First: 0, Count: 300, Dense: true}, {Name: "s300", First: 300}}
	b, e := Manifest(l)
	want := sealed([]byte{65, 77, 77, 49, 2, 4, 100, 51, 48, 48, 0, 172, 2, 1, 4, 115, 51, 48, 48, 172, 2, 0, 0})
	if !slices.Equal(b, want) || e != api.OK {
		t.Error(b, e)
	}
	for _, l := range rights() {
		if b, e := Manifest(l); !slices.Equal(b, plainManifest(l)) || e != api.OK {
			t.Error(l, b, e)
		}
	}
	for _, l := range append(wrongs(), farWrongs()...) {
		if b, e := Manifest(l); len(b) != 0 || e != api.ErrLog {
			t.Error(l, b, e)
		}
	}
}

// lists fails unless Listed tells these pieces.
func lists(t *testing.T, b []byte, want []api.Piece) {
	t.Helper()
	if l, e := Listed(b); !slices.Equal(l, want) || e != api.OK {
		t.Error(l, "error", e, "not", want)
	}
}

// listsNot fails unless Listed tells that error, and nothing beside it.
func listsNot(t *testing.T, what string, b []byte, want api.Errno) {
	t.Helper()
	for _, b := range [][]byte{b, slices.Clip(slices.Clone(b))} {
		if l, e := Listed(b); len(l) != 0 || e != want {
			t.Error(what, b, "is", l, "error", e, "not", want)
		}
	}
}

// P5.1: what was laid is told again, and it has that form alone.
func TestListed(t *testing.T) {
	for _, l := range rights() {
		lists(t, plainManifest(l), l)
		b, _ := Manifest(l)
		lists(t, b, l)
	}
}

// P5.1: bytes that are not what was sealed.
func TestListedUnsealed(t *testing.T) {
	b := plainManifest(chain(8, 300))
	for end := range b {
		want := api.ErrSum
		if end < 4 {
			want = api.ErrShort
		}
		listsNot(t, "cut", b[:end], want)
	}
	for at := range b {
		for bit := range 8 {
			b[at] ^= 1 << bit
			listsNot(t, "a bit", b, api.ErrSum)
			b[at] ^= 1 << bit
		}
	}
	for _, none := range append(noBodies(), plainBody(nil)) {
		wrong := sealed(none)
		wrong[len(wrong)-1] ^= 1
		listsNot(t, "none, and a wrong sum", wrong, api.ErrSum)
	}
}

// noBodies are bytes that stand ahead of no manifest's sum, whatever the pieces are.
func noBodies() [][]byte {
	good := plainBody(chain(8, 300))
	var out [][]byte
	for end := range good {
		out = append(out, good[:end])
	}
	for at := range 4 {
		for bit := range 8 {
			other := slices.Clone(good)
			other[at] ^= 1 << bit
			out = append(out, other)
		}
	}
	out = append(out, append(slices.Clone(good), 0), append(slices.Clone(good), good...), append(plainBody(nil), 0))
	mark, rest := good[:4], good[5:]
	for _, n := range [][]byte{{0}, {1}, {2}, {4}, {131, 0}, {128}, {255, 255, 255, 255, 255, 255, 255, 255, 255, 1}, slices.Repeat([]byte{255}, 11)} {
		out = append(out, slices.Concat(mark, n, rest))
	}
	return append(out, noPieces()...)
}

// noPieces are bytes of a manifest with one piece that is none, right or not, alone or ahead of others, or behind them.
func noPieces() [][]byte {
	long := slices.Repeat([]byte{'z'}, 41)
	over := binary.AppendUvarint(nil, 1<<62+1)
	most := binary.AppendUvarint(nil, math.MaxUint64)
	var pieces [][]byte
	for _, number := range [][]byte{nil, {128, 0}, {128}, over, most, binary.AppendUvarint(nil, 1<<63), slices.Repeat([]byte{255}, 11)} {
		pieces = append(pieces, slices.Concat([]byte{2, 's', '0'}, number, []byte{0, 0}), slices.Concat([]byte{2, 's', '0', 0}, number, []byte{0}))
	}
	for _, name := range [][]byte{nil, append([]byte{41}, long...), {130, 0, 's', '0'}, {3, 's'}, append(most, 's', '0')} {
		pieces = append(pieces, slices.Concat(name, []byte{0, 0, 0}))
	}
	for _, flag := range [][]byte{nil, {2}, {128, 0}, {255}, {0, 0}} {
		pieces = append(pieces, slices.Concat([]byte{2, 's', '0', 0, 0}, flag))
	}
	var out [][]byte
	one := plainPiece(chain(1)[0])
	for _, p := range pieces {
		out = append(out, slices.Concat([]byte{65, 77, 77, 49, 1}, p), slices.Concat([]byte{65, 77, 77, 49, 2}, one, p))
	}
	return out
}

// P5.1: bytes of another form, with their right sum.
func TestListedBytes(t *testing.T) {
	listsNot(t, "nothing", []byte{0, 0, 0, 0}, api.ErrBytes)
	for _, none := range noBodies() {
		listsNot(t, "none", sealed(none), api.ErrBytes)
	}
}

// P5.1: bytes of that form, of pieces that are not right; but what comes behind them may be of another form.
func TestListedLog(t *testing.T) {
	for _, l := range wrongs() {
		listsNot(t, "wrong pieces", plainManifest(l), api.ErrLog)
		listsNot(t, "wrong pieces, and a byte", sealed(append(plainBody(l), 0)), api.ErrBytes)
	}
	for _, l := range farWrongs() {
		listsNot(t, "numbers that are too much", plainManifest(l), toldWrong(l))
	}
}

// toldWrong is the error of a manifest's bytes of those pieces, by the chapter's words: numbers below 0 are told as great ones.
func toldWrong(l []api.Piece) api.Errno {
	for _, p := range l {
		if len(p.Name) > 40 || uint64(p.First) > 1<<62 || uint64(p.Count) > 1<<62 {
			return api.ErrBytes
		}
	}
	return api.ErrLog
}

// P5.1, R3: what is handed in stays, and each answer is memory of its own.
func TestManifestLeavesWhatIsHandedIn(t *testing.T) {
	l, unchanged := roomy(t, chain(8, 300), api.Piece{Name: "x"})
	first, _ := Manifest(l)
	second, _ := Manifest(l)
	clear(first[:cap(first)])
	d := newDisk(t, 1000)
	wants(t, "Install", Install(d, l), api.OK)
	Right(l)
	unchanged()
	if !slices.Equal(second, plainManifest(l)) {
		t.Error("two answers share memory")
	}

	b, unchanged := roomy(t, second, 238)
	one, _ := Listed(b)
	other, _ := Listed(b)
	clear(one[:cap(one)])
	unchanged()
	if !slices.Equal(other, l) {
		t.Error("two answers share memory")
	}
	clear(b)
	if !slices.Equal(other, l) {
		t.Error("an answer shares what was handed in")
	}
}

// P5.1: the manifest is the pieces', all safe, whatever was there; other files stay.
func TestInstall(t *testing.T) {
	for _, was := range []map[string]string{
		{},
		{"manifest": "old"},
		{"manifest.new": "left"},
		{"manifest": "old", "manifest.new": string(make([]byte, 500)), "s0": "x"},
	} {
		for _, l := range rights() {
			d := diskOf(t, was)
			wants(t, "Install", Install(d, l), api.OK)
			d.Crash(nil)
			want := maps.Clone(was)
			delete(want, "manifest.new")
			want["manifest"] = string(plainManifest(l))
			has(t, "installed", d, want)
		}
	}
}

// P5.1: pieces that are not right turn nothing, on any disk.
func TestInstallRefuses(t *testing.T) {
	for _, l := range append(wrongs(), farWrongs()...) {
		d := diskOf(t, map[string]string{"manifest": "old", "manifest.new": "left"})
		d.Arm(0)
		wants(t, "wrong pieces", Install(d, l), api.ErrLog)
		has(t, "refused", d, map[string]string{"manifest": "old", "manifest.new": "left"})
		wants(t, "wrong pieces and no disk", Install(nil, l), api.ErrLog)
		wants(t, "the power fails", d.Sync("manifest"), api.ErrDown)
		wants(t, "wrong pieces and no power", Install(d, l), api.ErrLog)
	}
	for _, d := range []*disk.Disk{nil, {}} {
		wants(t, "no disk", Install(d, chain(1)), api.ErrNil)
	}
}

// P5.1: the steps one by one, up to the first error.
func TestInstallStepByStep(t *testing.T) {
	l := chain(8, 9)
	b := string(plainManifest(l))
	for n, x := range []struct {
		left  map[string]string
		fresh bool
	}{
		{map[string]string{"manifest": "old", "manifest.new": "left"}, false},
		{map[string]string{"manifest": "old"}, false},
		{map[string]string{"manifest": "old", "manifest.new": b}, false},
		{map[string]string{"manifest": "old", "manifest.new": b}, true},
	} {
		d := diskOf(t, map[string]string{"manifest": "old", "manifest.new": "left"})
		d.Arm(n)
		wants(t, "no power behind "+strconv.Itoa(n), Install(d, l), api.ErrDown)
		safe := 0
		if x.fresh {
			safe = len(b)
		}
		if n > 1 && d.Synced("manifest.new") != safe {
			t.Error(n, d.Synced("manifest.new"))
		}
		d.Crash(slices.Repeat([]int{1000}, 9))
		has(t, "behind "+strconv.Itoa(n), d, x.left)
	}
	d := diskOf(t, map[string]string{"manifest": "old"})
	d.Arm(3)
	wants(t, "nothing to remove", Install(d, l), api.OK)
	wants(t, "all is done", d.Sync("manifest"), api.ErrDown)
}

// P5.1: a disk that is full.
func TestInstallFull(t *testing.T) {
	l := chain(8, 9)
	b := plainManifest(l)
	d := newDisk(t, 3+len(b)-1)
	wants(t, "Append", d.Append("manifest", []byte("old")), api.OK)
	wants(t, "no bytes left", Install(d, l), api.ErrFull)
	has(t, "full", d, map[string]string{"manifest": "old"})

	d = newDisk(t, 1000)
	for i := range api.MaxFiles {
		wants(t, "Append", d.Append("f"+strconv.Itoa(i), nil), api.OK)
	}
	wants(t, "no file left", Install(d, l), api.ErrFull)
	wants(t, "Rename", d.Rename("f0", "manifest.new"), api.OK)
	wants(t, "one in its place", Install(d, l), api.OK)
}
