package play

import (
	"tidegauge/api"
	"tidegauge/plain"
)

// run of a script. The tick that it has come to is the run's, not the play's: each one begins at 0.
type run struct {
	play *Play
	now  int
}

// answer to a number of the script.
func (r *run) answer(v int) int {
	if v < 0 {
		return -1
	}
	code, _ := plain.Code(r.do(v%8, v/8))
	return code
}

// do what a number asks for, by its kind and its rest.
func (r *run) do(kind, q int) error {
	switch kind {
	case 4:
		_, err := r.play.S.Flush(r.now)
		return err
	case 5:
		// Nothing to join is no error.
		_, err := r.play.S.Compact()
		return err
	case 6:
		return r.play.D.Cut(q % 60)
	case 7:
		return r.play.Boot()
	default:
		return r.add(q)
	}
}

// add a point. Time goes on also where it is refused.
func (r *run) add(q int) error {
	r.now += 1 + (q/3)%5
	return r.play.S.Add(series(q%3), api.Point{At: r.now, Bit: uint64(q)})
}

// series by number.
func series(n int) string {
	switch n {
	case 0:
		return "n=a"
	case 1:
		return "n=b"
	default:
		return "m=x,n=a"
	}
}
