package block

import (
	"tidegauge/api"
	"tidegauge/chunk"
	"tidegauge/fault"
	"tidegauge/label"
)

// checkBounds of a block of so many series.
func checkBounds(from, span, series int) error {
	if span < 1 || span > api.MaxSpan || from < -api.MaxTime || from > api.MaxTime || series > api.MaxSeries {
		return api.ErrBound
	}
	return nil
}

// checkSeries tells why a series cannot stand behind the one ahead. None is ahead of the first: an empty text, which is less than every series.
func checkSeries(series, ahead string) error {
	if _, err := label.Read(series); err != nil {
		return err
	}
	if series <= ahead {
		return api.ErrShape
	}
	return nil
}

// checkTicks tells ErrBound if not all points are in a block.
func (b Block) checkTicks(l []api.Point) error {
	if len(chunk.Between(l, b.From, b.From+b.Span-1)) < len(l) {
		return api.ErrBound
	}
	return nil
}

// packed points of a row that stands behind another one.
func (b Block) packed(r api.Row, ahead string) (string, error) {
	if err := checkSeries(r.Series, ahead); err != nil {
		return "", err
	}
	c, err := chunk.Encode(r.Points)
	if err != nil {
		return "", err
	}
	return c, b.checkTicks(r.Points)
}

// unpacked points of a series that stands behind another one.
func (b Block) unpacked(series, packed, ahead string) ([]api.Point, error) {
	if err := checkSeries(series, ahead); err != nil {
		return nil, err
	}
	l, err := chunk.Decode(packed)
	if err != nil {
		return nil, err
	}
	if len(l) == 0 {
		return nil, api.ErrNone
	}
	return l, b.checkTicks(l)
}

// rows of a block, if it is well.
func rows(b Block) ([]api.Row, error) {
	if err := checkBounds(b.From, b.Span, len(b.Series)); err != nil {
		return nil, err
	}
	if len(b.Chunks) != len(b.Series) {
		return nil, api.ErrShape
	}
	var l []api.Row
	ahead := ""
	for i, s := range b.Series {
		points, err := b.unpacked(s, b.Chunks[i], ahead)
		if err != nil {
			return nil, fault.At(i, err)
		}
		l, ahead = append(l, api.Row{Series: s, Points: points}), s
	}
	return l, nil
}
