package store

import (
	"maps"
	"slices"

	"tidegauge/api"
	"tidegauge/block"
)

// Flush what has passed into blocks.
func (s *Store) Flush(now int) (int, error) {
	if now < -api.MaxTime || now > api.MaxTime {
		return 0, api.ErrBound
	}
	made, err := s.lay(now)
	_, _ = s.Cut(s.end()) // the blocks have it now; it may be none
	s.forget()
	// The log is written anew also behind an error: what was laid into blocks ahead of it must not come back.
	if wrong := s.writeAnew(); err == nil {
		err = wrong
	}
	if err != nil {
		return 0, err
	}
	return made, nil
}

// lay what has passed into blocks, and tell how many were made; ErrFull: a stretch has too much for one, and none is made of it, nor of those behind it.
func (s *Store) lay(now int) (int, error) {
	made := 0
	stretches := s.passed(now)
	for _, from := range slices.Sorted(maps.Keys(stretches)) {
		b, err := block.Make(from, s.span, stretches[from])
		if err != nil {
			// A head's rows have nothing else that a block refuses.
			return made, api.ErrFull
		}
		s.blocks = append(s.blocks, b)
		made++
	}
	return made, nil
}

// passed stretches of the head that end at now or ahead of it: by where each begins, its rows, series rising.
func (s *Store) passed(now int) map[int][]api.Row {
	stretches := map[int][]api.Row{}
	last := s.begin(now) - 1
	for _, series := range s.Series() {
		parts := map[int][]api.Point{}
		for _, p := range s.Points(series, 0, last) {
			from := s.begin(p.At)
			parts[from] = append(parts[from], p)
		}
		for from, l := range parts {
			stretches[from] = append(stretches[from], api.Row{Series: series, Points: l})
		}
	}
	return stretches
}

// begin of the stretch that a tick is in. (Of one below 0, where a store has none, a tick that is not above 0.)
func (s *Store) begin(tick int) int {
	return tick - tick%s.span
}

// forget the eldest blocks, if there are more than are kept.
func (s *Store) forget() {
	if n := len(s.blocks) - s.keep; n > 0 {
		s.blocks = slices.Clone(s.blocks[n:])
	}
}
