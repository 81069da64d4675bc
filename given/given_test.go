// Package given holds what is given against what the document says of it.
package given

import (
	"errors"
	"testing"

	"tidegauge/api"
	"tidegauge/plain"
)

// P5.

func TestBounds(t *testing.T) {
	for _, c := range []struct {
		name      string
		got, want int
	}{
		{"MaxTime", api.MaxTime, 1099511627776},
		{"MaxBits", api.MaxBits, 1048576},
		{"MaxPoints", api.MaxPoints, 120},
		{"MaxName", api.MaxName, 12},
		{"MaxLabels", api.MaxLabels, 6},
		{"MaxSeries", api.MaxSeries, 60},
		{"MaxBlocks", api.MaxBlocks, 40},
		{"MaxBytes", api.MaxBytes, 65536},
		{"MaxSpan", api.MaxSpan, 100000},
		{"MaxText", api.MaxText, 20000},
		{"MaxMatches", api.MaxMatches, 6},
		{"MaxSteps", api.MaxSteps, 3000},
		{"MaxLines", api.MaxLines, 100},
		{"Workers", api.Workers, 16},
	} {
		if c.got != c.want {
			t.Errorf("%s: %d, not %d", c.name, c.got, c.want)
		}
	}
}

func TestErrors(t *testing.T) {
	for i, c := range []struct {
		err  error
		text string
	}{
		{api.ErrText, "tidegauge: text"},
		{api.ErrBound, "tidegauge: bound"},
		{api.ErrShape, "tidegauge: shape"},
		{api.ErrName, "tidegauge: name"},
		{api.ErrNone, "tidegauge: none"},
		{api.ErrExist, "tidegauge: exist"},
		{api.ErrFull, "tidegauge: full"},
		{api.ErrOld, "tidegauge: old"},
		{api.ErrSum, "tidegauge: sum"},
		{api.ErrOff, "tidegauge: off"},
		{api.ErrKind, "tidegauge: kind"},
	} {
		if c.err.Error() != c.text {
			t.Errorf("%q, not %q", c.err, c.text)
		}
		if code, at := plain.Code(c.err); code != i+1 || at != -1 {
			t.Errorf("%v: %d, %d", c.err, code, at)
		}
		f := &api.Fault{At: 7, Err: c.err}
		if code, at := plain.Code(f); code != i+1 || at != 7 || f.Error() != c.text {
			t.Errorf("%v with a place: %d, %d", c.err, code, at)
		}
	}
}

func TestCodeOfOthers(t *testing.T) {
	if code, at := plain.Code(nil); code != 0 || at != -1 {
		t.Error(code, at)
	}
	if code, at := plain.Code(errors.New("tidegauge: text")); code != -1 || at != -1 {
		t.Error(code, at)
	}
}
