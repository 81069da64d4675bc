package play

import (
	"errors"
	"slices"
	"strconv"
	"testing"

	"tidegauge/api"
	"tidegauge/store"
	"tidegauge/wal"
)

// Scripts against a second reading of the chapter: numbers as octal digits, of which the last one is the kind and the others are q, and calls of a store and a disk of its own.
type model struct {
	disk  *wal.Disk
	store *store.Store
	now   int
}

func newModel(t *testing.T) *model {
	t.Helper()
	d, err := wal.NewDisk("")
	if err != nil {
		t.Fatal(err)
	}
	s, err := store.New(d, 50, 6)
	if err != nil {
		t.Fatal(err)
	}
	return &model{disk: d, store: s}
}

// read a number that is not below 0.
func read(t *testing.T, v int) (kind byte, q int) {
	t.Helper()
	s := strconv.FormatInt(int64(v), 8)
	n, err := strconv.ParseInt("0"+s[:len(s)-1], 8, 64)
	if err != nil {
		t.Fatal(err)
	}
	return s[len(s)-1], int(n)
}

func (m *model) step(t *testing.T, v int) int {
	t.Helper()
	if v < 0 {
		return -1
	}
	var err error
	kind, q := read(t, v)
	switch kind {
	case '0', '1', '2', '3':
		third := (q - q%3) / 3
		m.now += []int{1, 2, 3, 4, 5}[third%5]
		err = m.store.Add([]string{"n=a", "n=b", "m=x,n=a"}[q%3], api.Point{At: m.now, Bit: uint64(q)})
	case '4':
		_, err = m.store.Flush(m.now)
	case '5':
		if _, err = m.store.Compact(); err != nil {
			t.Fatal(err)
		}
	case '6':
		err = m.disk.Cut(q % 60)
	case '7':
		m.store, err = store.New(m.disk, 50, 6)
	}
	return number(t, err)
}

// number of an error that a play may meet.
func number(t *testing.T, err error) int {
	t.Helper()
	switch {
	case err == nil:
		return 0
	case errors.Is(err, api.ErrFull):
		return 7
	case errors.Is(err, api.ErrOld):
		return 8
	case errors.Is(err, api.ErrOff):
		return 10
	}
	t.Fatal(err)
	return -1
}

// follow a script by both, run by run: each piece is a run.
func follow(t *testing.T, pieces ...[]int) {
	t.Helper()
	p, m := New(), newModel(t)
	for i, script := range pieces {
		var want []int
		m.now = 0
		for _, v := range script[:min(len(script), api.MaxSteps)] {
			want = append(want, m.step(t, v))
		}
		if l := Run(p, script); !slices.Equal(l, want) {
			t.Fatal(i, script, l, want)
		}
		if a, b := told(t, p), told(t, &Play{D: m.disk, S: m.store}); a != b {
			t.Fatal(i, script, a, b)
		}
	}
}

// made scripts, by a fixed rule: numbers of all sizes, more of points than of the others where dense.
func made(seed uint64, n int, dense bool) []int {
	var l []int
	for range n {
		seed = seed*6364136223846793005 + 1442695040888963407
		v := int(seed>>1) >> (seed >> 58)
		switch kind := v & 7; {
		case dense && kind > 3 && v>>3%8 > 0:
			v &^= 4
		case seed>>50%16 == 0:
			v = -v
		}
		l = append(l, v)
	}
	return l
}

func TestAgainstModel(t *testing.T) {
	for seed := range uint64(60) {
		follow(t, made(seed, 150, seed%2 == 0), made(seed+1000, 150, seed%3 == 0), made(seed+2000, 300, true))
	}
	follow(t, made(7, api.MaxSteps+50, true))
}

// P111.

func TestSameScriptSamePlay(t *testing.T) {
	for seed := range uint64(20) {
		script := made(seed, 400, seed%4 > 0)
		p := New()
		l := Run(p, script)
		was := told(t, p)
		for range 3 {
			// Another play that goes on meanwhile changes nothing.
			q, other := New(), New()
			Run(other, made(seed+9, 50, true))
			again := Run(q, script)
			Run(other, made(seed+10, 50, true))
			if !slices.Equal(l, again) || told(t, q) != was {
				t.Fatal(seed, l, again)
			}
		}
	}
}

func FuzzRun(f *testing.F) {
	f.Add([]byte{0, 9, 18, 99, 4, 5, 86, 24, 25, 6, 7, 112}, uint8(0), -1)
	f.Add([]byte{96, 96, 96, 96, 96, 96, 96, 96, 96, 96, 96, 4, 5, 7}, uint8(3), 1<<62)
	f.Fuzz(func(t *testing.T, b []byte, times uint8, far int) {
		script := []int{far}
		for i, x := range b[:min(len(b), 300)] {
			script = append(script, int(x)+256*(i%(1+int(times))))
		}
		script = append(script, far)
		follow(t, script, script[:len(script)/2])
	})
}
