package mask

import (
	"tidegauge/api"
	"tidegauge/bits"
)

const (
	leadBits  = 5
	widthBits = 6
)

// way in which a change is told.
type way int

const (
	same   way = iota // there is none
	within            // by the window ahead
	anew              // by a window of its own
)

// form of a change: its way, and the window that there is behind it.
type form struct {
	way    way
	window window
}

// part of a form: a number, of which so many bits are put.
type part struct {
	value uint64
	size  int
}

// parts of a form, for a change that it tells.
func (f form) parts(change uint64) []part {
	told := part{change >> f.window.tail(), f.window.width}
	switch f.way {
	case same:
		return []part{{0b0, 1}}
	case within:
		return []part{{0b10, 2}, told}
	}
	// A width of 64 has no room in its bits, and is put as 0: its last ones.
	return []part{{0b11, 2}, {uint64(f.window.lead), leadBits}, {uint64(f.window.width), widthBits}, told}
}

// size does not hang on the change, but on its form alone.
func (f form) size() int {
	size := 0
	for _, p := range f.parts(0) {
		size += p.size
	}
	return size
}

func (f form) put(r *bits.Row, change uint64) error {
	for _, p := range f.parts(change) {
		if err := r.Put(p.value, p.size); err != nil {
			return err
		}
	}
	return nil
}

// getForm up to the bits that tell the change, where w is the window ahead.
func getForm(r *bits.Reader, w window) (form, error) {
	some, err := r.Get(1)
	if err != nil {
		return form{}, err
	}
	if some == 0 {
		return form{same, w}, nil
	}
	other, err := r.Get(1)
	if err != nil {
		return form{}, err
	}
	if other == 0 {
		return form{within, w}, nil
	}
	own, err := getWindow(r)
	if err != nil {
		return form{}, err
	}
	return form{anew, own}, nil
}

// getWindow refuses one that is wider than a value: it has no bits that could be read.
func getWindow(r *bits.Reader) (window, error) {
	lead, err := r.Get(leadBits)
	if err != nil {
		return window{}, err
	}
	width, err := r.Get(widthBits)
	if err != nil {
		return window{}, err
	}
	if width == 0 {
		width = valueBits
	}
	if lead+width > valueBits {
		return window{}, api.ErrText
	}
	return window{int(lead), int(width)}, nil
}

// get the change that a form tells.
func (f form) get(r *bits.Reader) (uint64, error) {
	if f.way == same {
		return 0, nil
	}
	told, err := r.Get(f.window.width)
	if err != nil {
		return 0, err
	}
	return told << f.window.tail(), nil
}
