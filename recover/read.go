package recover

import (
	"amanuensis/api"
	"amanuensis/disk"
	"amanuensis/seglog"
	"amanuensis/segment"
)

// told is what a disk's log tells.
type told struct {
	events      []api.Event
	pieces      []api.Piece
	whole, size int // of the open piece's file, if there is one: its bytes to the end of its whole frames, and all
}

// read tells the disk's log.
func read(d *disk.Disk) (told, api.Errno) {
	b, fault := d.Read(listName)
	if fault == api.ErrFile {
		return told{}, api.OK
	}
	if fault != api.OK {
		return told{}, fault
	}
	pieces, fault := seglog.Listed(b)
	if fault != api.OK {
		return told{}, api.ErrLog
	}
	return readPieces(d, pieces)
}

// readPieces tells the log of those pieces.
func readPieces(d *disk.Disk, pieces []api.Piece) (told, api.Errno) {
	out := told{pieces: pieces}
	for i, p := range pieces {
		b, fault := d.Read(p.Name)
		if fault == api.ErrFile {
			return told{}, api.ErrLog
		}
		if fault != api.OK {
			return told{}, fault
		}
		events, whole, ok := readPiece(p, b)
		isOpen := i == len(pieces)-1
		if !ok || !isOpen && (len(events) != p.Count || whole != len(b)) {
			return told{}, api.ErrLog
		}
		out.events = append(out.events, events...)
		out.whole, out.size = whole, len(b)
	}
	return out, api.OK
}

// readPiece tells the events of the piece's bytes, where these end, and whether the bytes are of that piece.
func readPiece(p api.Piece, b []byte) ([]api.Event, int, bool) {
	if p.Dense {
		first, events, fault := segment.Unpack(b)
		return events, len(b), fault == api.OK && first == p.First
	}
	first, events, end, fault := segment.Scan(b)
	return events, end, fault == api.OK && first == p.First
}
