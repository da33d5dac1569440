package disk

import (
	"amanuensis/api"
)

// Arm lets the power fail at the operation behind the next n ones.
func (d *Disk) Arm(n int) {
	if !d.made() || d.down {
		return
	}
	d.armed, d.left = true, max(n, 0)
}

// Down tells whether the power has failed.
func (d *Disk) Down() bool {
	return d.made() && d.down
}

// Crash leaves what is safe, and of the i-th file's other bytes the first keeps[i]; the power is there again.
func (d *Disk) Crash(keeps []int) {
	if !d.made() {
		return
	}
	for i, name := range d.List() {
		f := d.files[name]
		kept := 0
		if i < len(keeps) {
			kept = min(max(keeps[i], 0), len(f.bytes)-f.synced)
		}
		d.put(name, f.first(f.synced+kept))
	}
	d.down, d.armed = false, false
}

// made tells whether New made this disk.
func (d *Disk) made() bool {
	return d != nil && d.files != nil
}

// ready tells why nothing at all can be done.
func (d *Disk) ready() api.Errno {
	if !d.made() {
		return api.ErrNil
	}
	if d.down {
		return api.ErrDown
	}
	return api.OK
}

// operate does what an operation does, unless the power fails ahead of it.
func (d *Disk) operate(do func()) api.Errno {
	if d.armed {
		if d.left == 0 {
			d.down, d.armed = true, false
			return api.ErrDown
		}
		d.left--
	}
	do()
	return api.OK
}
