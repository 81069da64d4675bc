package wave

import (
	"tidegauge/api"
	"tidegauge/bits"
)

// course of ticks: the last one, and what it was more than the one ahead of it.
type course struct {
	at    int
	step  int
	begun bool
}

// change is what a next tick is put as.
func (c course) change(at int) int { return at - c.at - c.step }

// tick is the next one that a change makes.
func (c course) tick(change int) int { return c.at + c.step + change }

// moved is the course with one tick more. The first tick makes no step: it has none ahead of it.
func (c course) moved(at int) course {
	if !c.begun {
		return course{at: at, begun: true}
	}
	return course{at: at, step: at - c.at, begun: true}
}

// Ticks put.
func Ticks(r *bits.Row, l []int) error {
	if r == nil {
		return api.ErrShape
	}
	for i, at := range l {
		if !inTime(at) {
			return &api.Fault{At: i, Err: api.ErrBound}
		}
	}
	if !fit(r, l) {
		return api.ErrFull
	}
	var c course
	for _, at := range l {
		if err := Put(r, c.change(at)); err != nil {
			return err
		}
		c = c.moved(at)
	}
	return nil
}

// fit tells whether there is room for ticks: it is asked ahead, since what was put can't be taken back.
func fit(r *bits.Row, l []int) bool {
	var c course
	room := r.Room()
	for _, at := range l {
		room -= Size(c.change(at))
		if room < 0 {
			return false
		}
		c = c.moved(at)
	}
	return true
}

// Read ticks.
func Read(r *bits.Reader, n int) ([]int, error) {
	if n < 0 || n > api.MaxPoints {
		return nil, api.ErrBound
	}
	if r == nil {
		return nil, api.ErrShape
	}
	// A reader of its own, so that an error leaves r where it was.
	own := *r
	changes := make([]int, n)
	for i := range changes {
		change, err := Get(&own)
		if err != nil {
			return nil, err
		}
		changes[i] = change
	}
	// Only now, since Get's errors are told ahead of a tick that is out of bounds.
	l, err := ticksOf(changes)
	if err != nil {
		return nil, err
	}
	*r = own
	return l, nil
}

// ticksOf changes. A sum that wraps round is far out of bounds still, since the ticks ahead of it are within them.
func ticksOf(changes []int) ([]int, error) {
	var c course
	l := make([]int, 0, len(changes))
	for _, change := range changes {
		at := c.tick(change)
		if !inTime(at) {
			return nil, api.ErrBound
		}
		c = c.moved(at)
		l = append(l, at)
	}
	return l, nil
}

func inTime(at int) bool { return at >= -api.MaxTime && at <= api.MaxTime }
