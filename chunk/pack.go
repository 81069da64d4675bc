package chunk

import (
	"tidegauge/api"
	"tidegauge/bits"
	"tidegauge/mask"
	"tidegauge/wave"
)

const (
	byteBits  = 8
	countBits = 8
)

// packed points, without a sum.
func packed(l []api.Point) (string, error) {
	var ticks []int
	var values []uint64
	for _, p := range l {
		ticks = append(ticks, p.At)
		values = append(values, p.Bit)
	}
	r := bits.New()
	if err := r.Put(uint64(len(l)), countBits); err != nil {
		return "", err
	}
	if err := wave.Ticks(r, ticks); err != nil {
		return "", err
	}
	if err := mask.Put(r, values); err != nil {
		return "", err
	}
	return r.Bytes(), nil
}

// unpacked points. What is behind their bits is not looked at.
func unpacked(body string) ([]api.Point, error) {
	r, err := bits.Open(body, len(body)*byteBits)
	if err != nil {
		return nil, err
	}
	count, err := r.Get(countBits)
	if err != nil {
		return nil, err
	}
	ticks, err := wave.Read(r, int(count))
	if err != nil {
		return nil, err
	}
	values, err := mask.Read(r, int(count))
	if err != nil {
		return nil, err
	}
	l := make([]api.Point, 0, len(ticks))
	for i, at := range ticks {
		l = append(l, api.Point{At: at, Bit: values[i]})
	}
	return l, nil
}
