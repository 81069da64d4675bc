package fault

import (
	"errors"
	"testing"

	"tidegauge/api"
)

// other error, which is none of api's and wraps one.
type other struct{ error }

func (o other) Unwrap() error { return o.error }

func TestBare(t *testing.T) {
	plain := errors.New("other")
	for i, c := range []struct{ err, want error }{
		{nil, nil},
		{api.ErrText, api.ErrText},
		{plain, plain},
		{&api.Fault{At: 3, Err: api.ErrName}, api.ErrName},
		{&api.Fault{}, nil},
		{other{&api.Fault{At: 1, Err: api.ErrOld}}, api.ErrOld},
	} {
		if err := Bare(c.err); err != c.want {
			t.Errorf("%d: %#v", i, err)
		}
	}
}

func TestAt(t *testing.T) {
	for i, err := range []error{api.ErrShape, &api.Fault{At: 9, Err: api.ErrShape}} {
		f, ok := At(4, err).(*api.Fault)
		if !ok || f.At != 4 || f.Err != api.ErrShape {
			t.Errorf("%d: %#v", i, f)
		}
	}
}

func TestAtLeavesTheErrorAsItIs(t *testing.T) {
	was := &api.Fault{At: 9, Err: api.ErrShape}
	if At(4, was); was.At != 9 || was.Err != api.ErrShape {
		t.Error(was)
	}
}
