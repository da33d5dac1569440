package compact

import (
	"amanuensis/api"
	"amanuensis/disk"
	"amanuensis/seglog"
)

// replace puts the piece, whose file has these bytes, in the place of all sealed ones. Whatever the manifest names is safe at each step: the new file ahead of Swap, the old ones till it is done.
func replace(l *seglog.Log, one api.Piece, b []byte) api.Errno {
	d := l.Disk()
	steps := []func() api.Errno{
		func() api.Errno { return away(d, one.Name) },
		func() api.Errno { return d.Append(one.Name, b) },
		func() api.Errno { return d.Sync(one.Name) },
		func() api.Errno { return l.Swap([]api.Piece{one}) },
	}
	for _, p := range sealed(l) {
		steps = append(steps, func() api.Errno { return d.Remove(p.Name) })
	}
	return tried(steps)
}

// tried does the steps one by one, and tells the first error: no step is done behind it.
func tried(steps []func() api.Errno) api.Errno {
	for _, step := range steps {
		if fault := step(); fault != api.OK {
			return fault
		}
	}
	return api.OK
}

// away removes the file, if there is one: a crash within an earlier call may have left it.
func away(d *disk.Disk, name string) api.Errno {
	fault := d.Remove(name)
	if fault == api.ErrFile {
		return api.OK
	}
	return fault
}
