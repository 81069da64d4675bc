package label

import (
	"errors"
	"slices"
	"strings"

	"tidegauge/api"
)

// Order of lists of labels.
func Order(l [][]api.Label) ([]int, error) {
	if len(l) > api.MaxSeries {
		return nil, api.ErrBound
	}
	var numbers []int
	var texts []string
	for i, x := range l {
		s, err := Text(x)
		if err != nil {
			return nil, &api.Fault{At: i, Err: bare(err)}
		}
		numbers, texts = append(numbers, i), append(texts, s)
	}
	slices.SortStableFunc(numbers, func(a, b int) int {
		return strings.Compare(texts[a], texts[b])
	})
	return numbers, nil
}

// bare error: a place within one list is none of the lists.
func bare(err error) error {
	var fault *api.Fault
	if errors.As(err, &fault) {
		return fault.Err
	}
	return err
}
