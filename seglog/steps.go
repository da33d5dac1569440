package seglog

import (
	"amanuensis/api"
	"amanuensis/disk"
)

// tried does the steps one by one, and tells the first error: no step is done behind it.
func tried(steps ...func() api.Errno) api.Errno {
	for _, step := range steps {
		if fault := step(); fault != api.OK {
			return fault
		}
	}
	return api.OK
}

// lay gives the file these bytes and no others, all safe, whatever an earlier life left under its name.
func lay(d *disk.Disk, name string, b []byte) api.Errno {
	return tried(
		func() api.Errno { return away(d, name) },
		func() api.Errno { return d.Append(name, b) },
		func() api.Errno { return d.Sync(name) },
	)
}

// away removes the file, if there is one.
func away(d *disk.Disk, name string) api.Errno {
	fault := d.Remove(name)
	if fault == api.ErrFile {
		return api.OK
	}
	return fault
}
