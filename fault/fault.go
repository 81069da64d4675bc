// Package fault gives errors a place, and takes it away.
package fault

import (
	"errors"

	"tidegauge/api"
)

// At a place of a list, an error. A place that it has is one within what stands there, and no place of the list.
func At(i int, err error) error {
	return &api.Fault{At: i, Err: Bare(err)}
}

// Bare error: without its place, if it has one.
func Bare(err error) error {
	var f *api.Fault
	if errors.As(err, &f) {
		return f.Err
	}
	return err
}
