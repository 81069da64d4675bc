package label

import (
	"slices"
	"strings"

	"tidegauge/api"
	"tidegauge/fault"
)

// Order of lists of labels.
func Order(l [][]api.Label) ([]int, error) {
	if len(l) > api.MaxSeries {
		return nil, api.ErrBound
	}
	var numbers []int
	var texts []string
	for i, x := range l {
		s, err := Text(x)
		if err != nil {
			return nil, fault.At(i, err)
		}
		numbers, texts = append(numbers, i), append(texts, s)
	}
	slices.SortStableFunc(numbers, func(a, b int) int {
		return strings.Compare(texts[a], texts[b])
	})
	return numbers, nil
}
