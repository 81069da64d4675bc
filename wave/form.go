package wave

import "tidegauge/bits"

// form of a number: a mark that tells it from other forms, and the number behind it.
type form struct {
	mark  uint64
	ahead int // bits of the mark
	width int // bits of the number
	shift int // what is added to a number, so that none of the form's is below 0
}

// forms, the shortest first. Each mark has one 1 more than the one ahead: getForm counts them.
var forms = [...]form{
	{0b0, 1, 0, 0},
	{0b10, 2, 7, 63},
	{0b110, 3, 9, 255},
	{0b1110, 4, 12, 2047},
	{0b1111, 4, 64, 0},
}

// formOf a number: the first that holds it; the last one holds them all.
func formOf(n int) form {
	i := 0
	for !forms[i].holds(n) {
		i++
	}
	return forms[i]
}

// getForm by its mark.
func getForm(r *bits.Reader) (form, error) {
	ones := 0
	for ones < len(forms)-1 {
		bit, err := r.Get(1)
		if err != nil {
			return form{}, err
		}
		if bit == 0 {
			break
		}
		ones++
	}
	return forms[ones], nil
}

func (f form) size() int { return f.ahead + f.width }

// holds tells whether a number has room. One that is too small, and one whose sum wraps round, is below 0 with the shift: without its sign it needs all 64 bits.
func (f form) holds(n int) bool { return uint64(n+f.shift)>>f.width == 0 }

func (f form) put(r *bits.Row, n int) error {
	if err := r.Put(f.mark, f.ahead); err != nil {
		return err
	}
	return r.Put(uint64(n+f.shift), f.width)
}

// get the number behind the mark.
func (f form) get(r *bits.Reader) (int, error) {
	value, err := r.Get(f.width)
	if err != nil {
		return 0, err
	}
	return int(value) - f.shift, nil
}
