package label

import (
	"strings"

	"tidegauge/api"
)

// Kinds of a match.
const (
	is     = '='
	isNot  = '!'
	begins = '~'
)

// Fits labels all matches?
func Fits(l []api.Label, m []api.Match) (bool, error) {
	if err := Check(l); err != nil {
		return false, err
	}
	// All of them first: a match that does not fit hides no wrong one behind it.
	if err := CheckMatches(m); err != nil {
		return false, err
	}
	for _, x := range m {
		if !fits(valueOf(l, x.Label.Name), x) {
			return false, nil
		}
	}
	return true, nil
}

// CheckMatches tells what Fits would tell of matches, whatever the labels.
func CheckMatches(m []api.Match) error {
	if len(m) > api.MaxMatches {
		return api.ErrBound
	}
	for i, x := range m {
		if x.Kind != is && x.Kind != isNot && x.Kind != begins {
			return &api.Fault{At: i, Err: api.ErrKind}
		}
		if !isName(x.Label.Name) {
			return &api.Fault{At: i, Err: api.ErrName}
		}
	}
	return nil
}

// valueOf a name among labels; empty if there is none.
func valueOf(l []api.Label, name string) string {
	for _, x := range l {
		if x.Name == name {
			return x.Value
		}
	}
	return ""
}

// fits tells whether a value fits a match that has been checked.
func fits(value string, m api.Match) bool {
	switch m.Kind {
	case is:
		return value == m.Label.Value
	case isNot:
		return value != m.Label.Value
	default:
		return strings.HasPrefix(value, m.Label.Value)
	}
}
