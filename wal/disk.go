package wal

import "tidegauge/api"

// Disk of bytes that stay.
type Disk struct {
	bytes []byte
	off   bool
	waits bool // for a cut, when left more bytes are written
	left  int
}

// NewDisk with bytes.
func NewDisk(b string) (*Disk, error) {
	if len(b) > api.MaxBytes {
		return nil, api.ErrBound
	}
	return &Disk{bytes: []byte(b)}, nil
}

// Cut the power, some bytes later.
func (d *Disk) Cut(n int) error {
	if n < 0 {
		return api.ErrBound
	}
	if d.off {
		return api.ErrOff
	}
	d.waits, d.left = true, n
	return nil
}

// On again.
func (d *Disk) On() {
	d.off, d.waits, d.left = false, false, 0
}

// Power is there?
func (d *Disk) Power() bool { return !d.off }

// Bytes there are.
func (d *Disk) Bytes() string { return string(d.bytes) }

// Clear all bytes.
func (d *Disk) Clear() error {
	if d.off {
		return api.ErrOff
	}
	d.keep(0)
	return nil
}

// keep the first bytes alone.
func (d *Disk) keep(n int) {
	d.bytes = d.bytes[:n]
}

// room of a disk: how many bytes more a log may have.
func (d *Disk) room() int { return api.MaxBytes - len(d.bytes) }

// write a text byte by byte, as far as power goes.
func (d *Disk) write(s string) error {
	for i := range len(s) {
		if err := d.put(s[i]); err != nil {
			return err
		}
	}
	return nil
}

// put one byte. A cut that waits comes ahead of the byte that is one too many, not behind the last one: what ends just there is whole, and power is still there.
func (d *Disk) put(b byte) error {
	if d.waits && d.left == 0 {
		d.off = true
	}
	if d.off {
		return api.ErrOff
	}
	if d.waits {
		d.left--
	}
	d.bytes = append(d.bytes, b)
	return nil
}
