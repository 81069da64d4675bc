package store

import (
	"tidegauge/api"
	"tidegauge/head"
	"tidegauge/wal"
)

// live points: a head, and the log that it comes back from. (A store embeds the head by this, and so has no field that others see.)
type live struct {
	*head.Head
	disk *wal.Disk
}

// recovered from a log.
func recovered(d *wal.Disk) (live, error) {
	entries, err := wal.Recover(d)
	if err != nil {
		return live{}, err
	}
	h := head.New()
	for _, e := range entries {
		if e.P.At < 0 {
			continue
		}
		// A log may have what no head takes; the records behind it count all the same.
		_ = h.Add(e.Series, e.P)
	}
	return live{Head: h, disk: d}, nil
}

// put a point that the head does not refuse. The log is first: a point that it has not whole would be gone without power.
func (l live) put(series string, p api.Point) error {
	if err := wal.Append(l.disk, series, p); err != nil {
		return err
	}
	return l.Head.Add(series, p)
}

// writeAnew the log: what is in the head, and nothing else.
func (l live) writeAnew() error {
	if err := l.disk.Clear(); err != nil {
		return err
	}
	for _, series := range l.Series() {
		for _, p := range l.Points(series, 0, api.MaxTime) {
			if err := wal.Append(l.disk, series, p); err != nil {
				return err
			}
		}
	}
	return nil
}
