package store

import (
	"maps"
	"slices"

	"tidegauge/api"
	"tidegauge/chunk"
	"tidegauge/label"
)

// Select points.
func (s *Store) Select(m []api.Match, from, to int) ([]api.Row, error) {
	// Wrong matches are told also where there is no series to hold against them.
	if err := label.CheckMatches(m); err != nil {
		return nil, err
	}
	var rows []api.Row
	for _, series := range s.everySeries() {
		fit, err := fits(series, m)
		if err != nil {
			return nil, err
		}
		if !fit {
			continue
		}
		l, err := s.everyPoint(series, from, to)
		if err != nil {
			return nil, err
		}
		if len(l) > 0 {
			rows = append(rows, api.Row{Series: series, Points: l})
		}
	}
	return rows, nil
}

// fits a series, by its text, all matches?
func fits(series string, m []api.Match) (bool, error) {
	l, err := label.Read(series)
	if err != nil {
		return false, err
	}
	return label.Fits(l, m)
}

// everySeries of blocks and head, rising.
func (s *Store) everySeries() []string {
	found := map[string]struct{}{}
	for _, b := range s.blocks {
		for _, series := range b.Series {
			found[series] = struct{}{}
		}
	}
	for _, series := range s.Series() {
		found[series] = struct{}{}
	}
	return slices.Sorted(maps.Keys(found))
}

// everyPoint of a series, of blocks and head. They rise as they are taken: each block is behind the one ahead, and the head behind them all.
func (s *Store) everyPoint(series string, from, to int) ([]api.Point, error) {
	var all []api.Point
	for _, b := range s.blocks {
		i, found := slices.BinarySearch(b.Series, series)
		if !found {
			continue
		}
		// Not by block.Points, which would look at all the other chunks as well.
		l, err := chunk.Decode(b.Chunks[i])
		if err != nil {
			return nil, err
		}
		all = append(all, chunk.Between(l, from, to)...)
	}
	return append(all, s.Points(series, from, to)...), nil
}
