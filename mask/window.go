package mask

import "math/bits"

const (
	valueBits = 64
	maxLead   = 31 // the most that a lead's bits hold
)

// window of a change: the bits of it that are told; those ahead of them and those behind them are 0. The zero window stands for none.
type window struct {
	lead  int // bits ahead
	width int // bits that are told
}

// windowOf a change that is not 0: the least that tells it.
func windowOf(change uint64) window {
	lead := min(bits.LeadingZeros64(change), maxLead)
	return window{lead, valueBits - lead - bits.TrailingZeros64(change)}
}

// tail is how many bits are behind.
func (w window) tail() int { return valueBits - w.lead - w.width }

// holds tells whether another window's bits are all told by this one. The zero window has all bits behind it, and so holds no change's.
func (w window) holds(other window) bool {
	return other.lead >= w.lead && other.tail() >= w.tail()
}

// formOf a change, where w is the window ahead of it.
func (w window) formOf(change uint64) form {
	if change == 0 {
		return form{same, w}
	}
	own := windowOf(change)
	if w.holds(own) {
		return form{within, w}
	}
	return form{anew, own}
}
