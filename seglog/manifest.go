package seglog

import (
	"slices"
	"strings"

	"amanuensis/api"
	"amanuensis/bytes"
	"amanuensis/disk"
)

const (
	listName   = "manifest"
	newName    = "manifest.new" // the manifest's till it is safe
	listMark   = "AMM1"
	mostCount  = 1 << 40 // events of a sealed piece
	mostNumber = 1 << 62 // that a manifest's bytes may have
)

// Right tells whether a log may have these pieces.
func Right(l []api.Piece) bool {
	if len(l) == 0 || len(l) > api.MaxPieces {
		return false
	}
	next := 0
	for i, p := range l {
		right := isSealed(p)
		if i == len(l)-1 {
			right = isOpen(p)
		}
		if !right || p.First != next || !mayBeNamed(p.Name, l[:i]) {
			return false
		}
		next += p.Count
	}
	return true
}

// Manifest gives the bytes that tell the pieces.
func Manifest(l []api.Piece) ([]byte, api.Errno) {
	if !Right(l) {
		return nil, api.ErrLog
	}
	out := bytes.Uint([]byte(listMark), uint64(len(l)))
	for _, p := range l {
		out = bytes.Blob(out, []byte(p.Name))
		out = bytes.Uint(out, uint64(p.First))
		out = bytes.Uint(out, uint64(p.Count))
		out = append(out, flag(p.Dense))
	}
	return bytes.Seal(out), api.OK
}

// Listed tells the pieces of a manifest's bytes.
func Listed(b []byte) ([]api.Piece, api.Errno) {
	body, fault := bytes.Unseal(b)
	if fault != api.OK {
		return nil, fault
	}
	l, ok := readPieces(body)
	if !ok {
		return nil, api.ErrBytes
	}
	if !Right(l) {
		return nil, api.ErrLog
	}
	return l, api.OK
}

// Install makes these the pieces of the disk's manifest: by a rename, so that a crash leaves the old manifest or the new one, and nothing between.
func Install(d *disk.Disk, l []api.Piece) api.Errno {
	b, fault := Manifest(l)
	if fault != api.OK {
		return fault
	}
	return tried(
		func() api.Errno { return lay(d, newName, b) },
		func() api.Errno { return d.Rename(newName, listName) },
	)
}

func isSealed(p api.Piece) bool {
	return p.Count >= 1 && p.Count <= mostCount
}

func isOpen(p api.Piece) bool {
	return p.Count == 0 && !p.Dense
}

// mayBeNamed tells whether a piece may have that name behind those others.
func mayBeNamed(name string, others []api.Piece) bool {
	if name == listName || name == newName || !isFileName(name) {
		return false
	}
	return !slices.ContainsFunc(others, func(p api.Piece) bool { return p.Name == name })
}

// isFileName asks a disk: which names are right is for that layer to say.
func isFileName(name string) bool {
	d, _ := disk.New(0)
	return d.Append(name, nil) == api.OK
}

func flag(is bool) byte {
	if is {
		return 1
	}
	return 0
}

// readPieces tells the pieces of a manifest's bytes ahead of their sum, right or not, and whether the bytes have that form, to the last one.
func readPieces(b []byte) ([]api.Piece, bool) {
	if !strings.HasPrefix(string(b), listMark) {
		return nil, false
	}
	n, at, fault := bytes.GetUint(b, len(listMark))
	if fault != api.OK {
		return nil, false
	}
	var out []api.Piece
	for range n {
		p, next, ok := readPiece(b, at)
		if !ok {
			return nil, false
		}
		out, at = append(out, p), next
	}
	return out, at == len(b)
}

// readPiece tells the piece at the place at, the place behind it, and whether one stands there.
func readPiece(b []byte, at int) (api.Piece, int, bool) {
	name, at, fault := bytes.GetBlob(b, at, api.MaxFile)
	if fault != api.OK {
		return api.Piece{}, 0, false
	}
	first, at, ok := readNumber(b, at)
	if !ok {
		return api.Piece{}, 0, false
	}
	count, at, ok := readNumber(b, at)
	if !ok || at == len(b) || b[at] > 1 {
		return api.Piece{}, 0, false
	}
	return api.Piece{Name: string(name), First: first, Count: count, Dense: b[at] == 1}, at + 1, true
}

// readNumber tells the number at the place at, the place behind it, and whether one that is not too much stands there.
func readNumber(b []byte, at int) (int, int, bool) {
	n, next, fault := bytes.GetUint(b, at)
	if fault != api.OK || n > mostNumber {
		return 0, 0, false
	}
	return int(n), next, true
}
