package wave

import (
	"errors"
	"math"
	"slices"
	"strings"
	"testing"

	"tidegauge/api"
	"tidegauge/bits"
)

// wantedTicks tells a list's digits by the document's words one by one.
func wantedTicks(l []int) string {
	s := ""
	for i := range l {
		switch i {
		case 0:
			s += wanted(l[0])
		case 1:
			s += wanted(l[1] - l[0])
		default:
			s += wanted((l[i] - l[i-1]) - (l[i-1] - l[i-2]))
		}
	}
	return s
}

// waves of numbers.
func waves(l ...int) string {
	s := ""
	for _, n := range l {
		s += wanted(n)
	}
	return s
}

// wildTicks that follow a fixed rule, some near, some far.
func wildTicks(count int, seed uint64) []int {
	l := make([]int, count)
	at := 0
	for i := range l {
		seed = seed*6364136223846793005 + 1442695040888963407
		wide := int(seed>>59) % 3
		switch wide {
		case 0:
			at += 10
		case 1:
			at += int(seed>>40) % 3000
		default:
			at = int(seed>>20)%(2*api.MaxTime+1) - api.MaxTime
		}
		at = min(max(at, -api.MaxTime), api.MaxTime)
		l[i] = at
	}
	return l
}

func evenTicks(count, first, step int) []int {
	l := make([]int, count)
	for i := range l {
		l[i] = first + i*step
	}
	return l
}

// P21.

func TestTicksForms(t *testing.T) {
	for _, c := range []struct {
		l    []int
		want string
	}{
		{nil, ""}, {[]int{}, ""},
		{[]int{0}, "0"}, {[]int{10}, waves(10)}, {[]int{-5}, waves(-5)},
		{[]int{10, 20}, waves(10, 10)}, {[]int{10, 10}, waves(10, 0)}, {[]int{10, 5}, waves(10, -5)},
		{[]int{10, 20, 30, 40}, waves(10, 10, 0, 0)},
		{[]int{10, 20, 31, 40}, waves(10, 10, 1, -2)},
		{[]int{0, 0, 0}, "000"}, {[]int{7, 7, 7}, waves(7, 0, 0)},
		{[]int{100, 300, 100}, waves(100, 200, -400)},
		{[]int{api.MaxTime, -api.MaxTime, api.MaxTime}, waves(1<<40, -1<<41, 1<<42)},
		{[]int{-api.MaxTime, api.MaxTime, -api.MaxTime}, waves(-1<<40, 1<<41, -1<<42)},
	} {
		r := bits.New()
		if err := Ticks(r, c.l); err != nil || digits(t, r) != c.want {
			t.Errorf("%v: %s, %v; not %s", c.l, digits(t, r), err, c.want)
		}
		x := reader(t, r)
		if l, err := Read(x, len(c.l)); !slices.Equal(l, c.l) || err != nil || x.Left() != 0 {
			t.Errorf("%v: %v, %v, %d left", c.l, l, err, x.Left())
		}
	}
}

func TestTicksAndRead(t *testing.T) {
	for seed := range uint64(200) {
		want := wildTicks(int(seed)%(api.MaxPoints+1), seed)
		kept := slices.Clone(want)
		r := row(t, "110")
		if err := Ticks(r, want); err != nil || digits(t, r) != "110"+wantedTicks(kept) || !slices.Equal(want, kept) {
			t.Fatalf("seed %d: %v", seed, err)
		}
		if err := r.Put(5, 3); err != nil {
			t.Fatal(err)
		}
		x := reader(t, r)
		if _, err := x.Get(3); err != nil {
			t.Fatal(err)
		}
		if l, err := Read(x, len(want)); !slices.Equal(l, want) || err != nil || x.Left() != 3 {
			t.Fatalf("seed %d: %v, %v, %d left", seed, l, err, x.Left())
		}
	}
}

func TestTicksOutOfBounds(t *testing.T) {
	for _, wrong := range []int{api.MaxTime + 1, -api.MaxTime - 1, math.MaxInt, math.MinInt} {
		for _, c := range []struct {
			l  []int
			at int
		}{{[]int{wrong}, 0}, {[]int{1, wrong}, 1}, {[]int{1, 2, wrong, 4}, 2}, {[]int{0, wrong, wrong}, 1}, {[]int{wrong, 0, -wrong}, 0}} {
			r := row(t, "101")
			err := Ticks(r, c.l)
			var f *api.Fault
			if !errors.As(err, &f) || f.At != c.at || f.Err != api.ErrBound || digits(t, r) != "101" {
				t.Errorf("%v: %v, %s", c.l, err, digits(t, r))
			}
		}
	}
	r := bits.New()
	if err := Ticks(r, []int{api.MaxTime, -api.MaxTime}); err != nil {
		t.Error(err)
	}
}

func TestTicksAllOrNothing(t *testing.T) {
	for _, l := range [][]int{{0}, {10, 20, 30, 40}, {5, 3, 100, -api.MaxTime, api.MaxTime}, {0, 0, 0, 1}} {
		size := len(wantedTicks(l))
		for room := range size {
			r := rowWithRoom(t, room)
			before := r.Bytes()
			if err := Ticks(r, l); err != api.ErrFull || r.Len() != api.MaxBits-room || r.Bytes() != before {
				t.Fatalf("%v into %d: %v, %d", l, room, err, r.Len())
			}
		}
		r := rowWithRoom(t, size)
		if err := Ticks(r, l); err != nil || r.Len() != api.MaxBits {
			t.Fatalf("%v: %v, %d", l, err, r.Len())
		}
	}
}

func TestTicksOfALongList(t *testing.T) {
	r := bits.New()
	if err := Ticks(r, make([]int, api.MaxBits)); err != nil || r.Len() != api.MaxBits {
		t.Error(err, r.Len())
	}
	r = bits.New()
	if err := Ticks(r, make([]int, api.MaxBits+1)); err != api.ErrFull || r.Len() != 0 {
		t.Error(err, r.Len())
	}
	if err := Ticks(rowWithRoom(t, 0), nil); err != nil {
		t.Error(err)
	}
}

func TestTicksErrorsInOrder(t *testing.T) {
	for _, l := range [][]int{nil, {1}, {math.MaxInt}} {
		if err := Ticks(nil, l); err != api.ErrShape {
			t.Error(l, err)
		}
	}
	var f *api.Fault
	if err := Ticks(rowWithRoom(t, 0), []int{1, math.MaxInt}); !errors.As(err, &f) || f.At != 1 || f.Err != api.ErrBound {
		t.Error(err)
	}
}

func TestReadCount(t *testing.T) {
	zeros := row(t, strings.Repeat("0", 200))
	for _, n := range []int{-1, api.MaxPoints + 1, math.MinInt, math.MaxInt} {
		x := reader(t, zeros)
		if l, err := Read(x, n); len(l) != 0 || err != api.ErrBound || x.Left() != 200 {
			t.Error(n, l, err, x.Left())
		}
		if l, err := Read(nil, n); len(l) != 0 || err != api.ErrBound {
			t.Error(n, l, err)
		}
	}
	for _, n := range []int{0, 1, 2, api.MaxPoints} {
		x := reader(t, zeros)
		if l, err := Read(x, n); !slices.Equal(l, make([]int, n)) || err != nil || x.Left() != 200-n {
			t.Error(n, l, err, x.Left())
		}
		if l, err := Read(nil, n); len(l) != 0 || err != api.ErrShape {
			t.Error(n, l, err)
		}
	}
}

func TestReadWrongBits(t *testing.T) {
	for _, c := range []struct {
		digits string
		n      int
		want   error
	}{
		{"", 1, api.ErrNone}, {"0", 2, api.ErrNone}, {waves(10, 10, 5) + "1", 4, api.ErrNone},
		{"10 0111111", 1, api.ErrText}, {"0 10 0111111 0", 3, api.ErrText}, {"0 110 011111111", 3, api.ErrText},
		{waves(api.MaxTime + 1), 1, api.ErrBound}, {waves(-api.MaxTime - 1), 1, api.ErrBound},
		{waves(api.MaxTime, 1), 2, api.ErrBound}, {waves(-api.MaxTime, -1), 2, api.ErrBound},
		{waves(0, api.MaxTime, 0), 3, api.ErrBound}, {waves(api.MaxTime-10, 10, -9), 3, api.ErrBound},
		{waves(math.MaxInt), 1, api.ErrBound}, {waves(math.MinInt), 1, api.ErrBound},
		{waves(1, math.MaxInt), 2, api.ErrBound}, {waves(-1, math.MinInt), 2, api.ErrBound},
		{waves(0, 1<<40, math.MaxInt), 3, api.ErrBound}, {waves(0, -1<<40, math.MinInt), 3, api.ErrBound},
		// Back within the bounds, in sum or by a wrap-round.
		{waves(api.MaxTime+1, -1), 2, api.ErrBound}, {waves(math.MinInt, math.MinInt), 2, api.ErrBound},
		{waves(0, math.MinInt, math.MinInt), 3, api.ErrBound}, {waves(0, 1<<62, math.MinInt, 1<<62), 4, api.ErrBound},
		// Get's errors are named first.
		{waves(api.MaxTime + 1), 2, api.ErrNone}, {waves(api.MaxTime+1) + "10 0111111", 2, api.ErrText},
	} {
		x := reader(t, row(t, c.digits))
		left := x.Left()
		if l, err := Read(x, c.n); len(l) != 0 || err != c.want {
			t.Errorf("%s, %d: %v, %v; not %v", c.digits, c.n, l, err, c.want)
		}
		if c.want == api.ErrBound && x.Left() != left {
			t.Errorf("%s, %d: %d left, not %d", c.digits, c.n, x.Left(), left)
		}
	}
}

func TestReadToTheBounds(t *testing.T) {
	for _, want := range [][]int{
		{api.MaxTime, -api.MaxTime, api.MaxTime, api.MaxTime},
		{-api.MaxTime, -api.MaxTime + 1, -api.MaxTime},
		{api.MaxTime - 2, api.MaxTime - 1, api.MaxTime},
	} {
		r := row(t, wantedTicks(want))
		if l, err := Read(reader(t, r), len(want)); !slices.Equal(l, want) || err != nil {
			t.Error(want, l, err)
		}
	}
}

func TestReadGivesNewMemory(t *testing.T) {
	r := row(t, wantedTicks([]int{1, 2, 3}))
	a, _ := Read(reader(t, r), 3)
	b, _ := Read(reader(t, r), 3)
	if !slices.Equal(a, b) {
		t.Fatal(a, b)
	}
	a[0] = 9
	if b[0] != 1 {
		t.Error(b)
	}
}

func TestReadInParts(t *testing.T) {
	x := reader(t, row(t, wantedTicks([]int{5, 6, 8})+wantedTicks([]int{100, 50})))
	a, e1 := Read(x, 3)
	b, e2 := Read(x, 2)
	if !slices.Equal(a, []int{5, 6, 8}) || e1 != nil || !slices.Equal(b, []int{100, 50}) || e2 != nil || x.Left() != 0 {
		t.Error(a, e1, b, e2, x.Left())
	}
}

// P22.

func TestEvenTicksNeedOneBitEach(t *testing.T) {
	for _, c := range []struct{ first, step int }{{0, 0}, {10, 10}, {-500, 7}, {api.MaxTime, -1000}, {-api.MaxTime, 1 << 30}, {1 << 39, -1 << 33}} {
		l := evenTicks(api.MaxPoints, c.first, c.step)
		two, all := bits.New(), bits.New()
		e1, e2 := Ticks(two, l[:2]), Ticks(all, l)
		if e1 != nil || e2 != nil || all.Len() != two.Len()+len(l)-2 {
			t.Error(c, e1, e2, two.Len(), all.Len())
		}
	}
	r := bits.New()
	if err := Ticks(r, []int{10, 20, 30, 40}); err != nil || r.Len() != 9+9+1+1 {
		t.Error(err, r.Len())
	}
}
