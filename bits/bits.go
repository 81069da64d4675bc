// Package bits: bits: see ../shared/doc/01-bits.md.
package bits

import "tidegauge/api"

const (
	byteBits  = 8
	valueBits = 64
)

// Row of bits.
type Row struct {
	bytes []byte
	size  int
}

// New row.
func New() *Row { return &Row{} }

// Put the last bits of a value.
func (r *Row) Put(value uint64, n int) error {
	if n < 0 || n > valueBits {
		return api.ErrBound
	}
	if n > r.Room() {
		return api.ErrFull
	}
	for n > 0 {
		if r.size%byteBits == 0 {
			r.bytes = append(r.bytes, 0)
		}
		free := byteBits - r.size%byteBits
		take := min(n, free)
		n -= take
		r.bytes[len(r.bytes)-1] |= byte(last(value>>n, take) << (free - take))
		r.size += take
	}
	return nil
}

// Len of a row.
func (r *Row) Len() int { return r.size }

// Room of a row: how many bits more it takes. (Who puts several things, all or none, asks ahead.)
func (r *Row) Room() int { return api.MaxBits - r.size }

// Bytes of a row.
func (r *Row) Bytes() string { return string(r.bytes) }

// Reader of bits.
type Reader struct {
	bytes []byte
	at    int
	size  int
}

// Open bytes.
func Open(b string, n int) (*Reader, error) {
	if n < 0 || n > api.MaxBits {
		return nil, api.ErrBound
	}
	// Counted in bytes, since a long text's bits might be more than an int holds.
	need := (n + byteBits - 1) / byteBits
	if need > len(b) {
		return nil, api.ErrBound
	}
	// A copy, so that a reader of few bits does not hold on to a long text.
	return &Reader{bytes: []byte(b[:need]), size: n}, nil
}

// Get so many bits more.
func (r *Reader) Get(n int) (uint64, error) {
	if n < 0 || n > valueBits {
		return 0, api.ErrBound
	}
	if n > r.Left() {
		return 0, api.ErrNone
	}
	var value uint64
	for n > 0 {
		rest := byteBits - r.at%byteBits
		take := min(n, rest)
		part := uint64(r.bytes[r.at/byteBits]) >> (rest - take)
		value = value<<take | last(part, take)
		r.at += take
		n -= take
	}
	return value, nil
}

// Left bits.
func (r *Reader) Left() int { return r.size - r.at }

// last n bits of a value, where n is at most a byte's.
func last(value uint64, n int) uint64 { return value & (1<<n - 1) }
