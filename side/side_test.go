package side

import (
	"fmt"
	"math"
	"slices"
	"strings"
	"testing"

	"tidegauge/api"
	"tidegauge/chunk"
)

// at these ticks are points, each with its place as value.
func at(ticks ...int) []api.Point {
	var l []api.Point
	for i, n := range ticks {
		l = append(l, api.Point{At: n, Bit: uint64(i)})
	}
	return l
}

// lists of points, n of them, by a fixed rule: short ones and long ones in turn, so that workers end at different times.
func lists(n int) [][]api.Point {
	var all [][]api.Point
	seed := uint64(n)
	for i := range n {
		var l []api.Point
		p := api.Point{At: -i}
		for range i * 37 % (api.MaxPoints + 1) {
			seed = seed*6364136223846793005 + 1442695040888963407
			p.At += 1 + int(seed>>40%500)
			p.Bit ^= seed >> (seed >> 58)
			l = append(l, p)
		}
		all = append(all, l)
	}
	return all
}

// texts of lists, one by one by package chunk.
func texts(t *testing.T, l [][]api.Point) []string {
	t.Helper()
	var all []string
	for i, x := range l {
		s, err := chunk.Encode(x)
		if err != nil {
			t.Fatal(i, err)
		}
		all = append(all, s)
	}
	return all
}

// same lists: nil and empty are one thing.
func same(a, b [][]api.Point) bool { return slices.EqualFunc(a, b, slices.Equal) }

// isFault tells whether an error is just the one wanted, at that place; below 0: bare.
func isFault(err error, at int, want error) bool {
	if at < 0 {
		return err == want
	}
	f, ok := err.(*api.Fault)
	return ok && f.At == at && f.Err == want
}

// everyone does it, from one worker to as many as there may be.
func everyone(do func(workers int)) {
	for w := 1; w <= api.Workers; w++ {
		do(w)
	}
}

// P120.

func TestOfEach(t *testing.T) {
	for _, n := range []int{0, 1, 2, 3, 15, 16, 17, 99, 100} {
		l := lists(n)
		want := texts(t, l)
		everyone(func(w int) {
			if s, err := Encodes(l, w); !slices.Equal(s, want) || err != nil {
				t.Errorf("%d by %d: %q, %v", n, w, s, err)
			}
			if p, err := Decodes(want, w); !same(p, l) || err != nil {
				t.Errorf("%d by %d: %v, %v", n, w, p, err)
			}
		})
	}
}

func TestByHand(t *testing.T) {
	l := [][]api.Point{at(7), nil, {{}}, nil}
	s, err := Encodes(l, 3)
	if err != nil || len(s) != 4 || s[1] != "\x00\xd2\x02\xef\x8d" || s[3] != s[1] || s[0] == s[2] {
		t.Errorf("%q, %v", s, err)
	}
	if p, err := Decodes(s, 3); fmt.Sprint(p) != "[[{7 0}] [] [{0 0}] []]" || err != nil {
		t.Error(p, err)
	}
}

func TestNone(t *testing.T) {
	everyone(func(w int) {
		for _, l := range [][][]api.Point{nil, {}} {
			if s, err := Encodes(l, w); len(s) != 0 || err != nil {
				t.Error(w, s, err)
			}
		}
		for _, l := range [][]string{nil, {}} {
			if p, err := Decodes(l, w); len(p) != 0 || err != nil {
				t.Error(w, p, err)
			}
		}
	})
}

func TestLongestPoints(t *testing.T) {
	var longest []api.Point
	for i := range api.MaxPoints {
		longest = append(longest, api.Point{At: i*i*i - api.MaxTime, Bit: math.MaxUint64 >> (i % 64)})
	}
	l := slices.Repeat([][]api.Point{longest}, 100)
	want := texts(t, l)
	for _, w := range []int{1, 7, api.Workers} {
		if s, err := Encodes(l, w); !slices.Equal(s, want) || err != nil {
			t.Error(w, err)
		}
		if p, err := Decodes(want, w); !same(p, l) || err != nil {
			t.Error(w, err)
		}
	}
}

// bareOf both calls is an error, without anything else, of n that are wrong each or right each.
func bareOf(t *testing.T, n, workers int, want error) {
	t.Helper()
	for _, l := range [][][]api.Point{make([][]api.Point, n), slices.Repeat([][]api.Point{at(1, 1)}, n)} {
		if s, err := Encodes(l, workers); len(s) != 0 || err != want {
			t.Errorf("%d by %d: %q, %#v; not %v", n, workers, s, err, want)
		}
	}
	for _, l := range [][]string{make([]string, n), slices.Repeat([]string{"\x00\xd2\x02\xef\x8d"}, n)} {
		if p, err := Decodes(l, workers); len(p) != 0 || err != want {
			t.Errorf("%d by %d: %v, %#v; not %v", n, workers, p, err, want)
		}
	}
}

func TestWrongWorkers(t *testing.T) {
	for _, w := range []int{0, -1, api.Workers + 1, 100, math.MinInt, math.MaxInt} {
		// Also of none, of some that are wrong, and of too many: ErrShape is named first.
		for _, n := range []int{0, 1, 3, 100, 101, 1000} {
			bareOf(t, n, w, api.ErrShape)
		}
	}
}

func TestTooMany(t *testing.T) {
	everyone(func(w int) {
		// Also of some that are wrong: ErrBound is named first.
		for _, n := range []int{101, 102, 1000} {
			bareOf(t, n, w, api.ErrBound)
		}
	})
}

func TestWrongPoints(t *testing.T) {
	tooMany := make([]api.Point, api.MaxPoints+1)
	for _, c := range []struct {
		l    [][]api.Point
		at   int
		want error
	}{
		{[][]api.Point{at(1, 1)}, 0, api.ErrOld},
		{[][]api.Point{nil, at(1, 2), at(1, 2, 3, 2)}, 2, api.ErrOld},
		{[][]api.Point{at(1), at(api.MaxTime + 1), at(2, 1)}, 1, api.ErrBound},
		{[][]api.Point{at(1), at(2, 1), at(math.MinInt)}, 1, api.ErrOld},
		{[][]api.Point{at(1), at(1, 2, 3, 4, 5, -api.MaxTime-1)}, 1, api.ErrBound},
		{[][]api.Point{at(1), at(2), at(3), tooMany}, 3, api.ErrBound},
		{[][]api.Point{tooMany, at(2, 1)}, 0, api.ErrBound},
		{append(lists(99), at(5, 5)), 99, api.ErrOld},
		{append(lists(97), at(5, 5), at(math.MaxInt), tooMany), 97, api.ErrOld},
		{slices.Repeat([][]api.Point{at(3, 3)}, 100), 0, api.ErrOld},
	} {
		everyone(func(w int) {
			if s, err := Encodes(c.l, w); len(s) != 0 || !isFault(err, c.at, c.want) {
				t.Errorf("%d by %d: %q, %#v; not %d, %v", len(c.l), w, s, err, c.at, c.want)
			}
		})
	}
}

func TestWrongTexts(t *testing.T) {
	ok := texts(t, lists(97))
	// A body of two points of one tick, with its right sum: not what Encode makes.
	other := "\x02" + strings.Repeat("\x00", 9)
	sum := chunk.Sum(other)
	other += string([]byte{byte(sum >> 24), byte(sum >> 16), byte(sum >> 8), byte(sum)})
	for _, c := range []struct {
		l    []string
		at   int
		want error
	}{
		{[]string{""}, 0, api.ErrText},
		{[]string{"what is"}, 0, api.ErrSum},
		{[]string{other}, 0, api.ErrText},
		{[]string{ok[3], ok[4], ok[5] + "\x00", ""}, 2, api.ErrSum},
		{[]string{ok[3], ok[4], "", ok[5] + "\x00"}, 2, api.ErrText},
		{[]string{ok[96], other, "abcde", ""}, 1, api.ErrText},
		{append(slices.Clone(ok), ok[1], ok[2], "abcd"), 99, api.ErrText},
		{append(slices.Clone(ok), "abcde", "abcd", other), 97, api.ErrSum},
		{make([]string, 100), 0, api.ErrText},
	} {
		everyone(func(w int) {
			if p, err := Decodes(c.l, w); len(p) != 0 || !isFault(err, c.at, c.want) {
				t.Errorf("%d by %d: %v, %#v; not %d, %v", len(c.l), w, p, err, c.at, c.want)
			}
		})
	}
}

func TestFirstWrongWhereverItStands(t *testing.T) {
	l := lists(50)
	s := texts(t, l)
	for i := len(l) - 1; i >= 0; i-- {
		// Each one behind it is wrong already, in another way.
		l[i], s[i] = at(1, 1), "abcde"
		if i+1 < len(l) {
			l[i+1], s[i+1] = at(math.MaxInt), ""
		}
		for _, w := range []int{1, 2, 5, api.Workers} {
			if got, err := Encodes(l, w); len(got) != 0 || !isFault(err, i, api.ErrOld) {
				t.Errorf("%d by %d: %q, %#v", i, w, got, err)
			}
			if got, err := Decodes(s, w); len(got) != 0 || !isFault(err, i, api.ErrSum) {
				t.Errorf("%d by %d: %v, %#v", i, w, got, err)
			}
		}
	}
}

// P121, and P2.

// told of both calls, as a text: answers, errors and places.
func told(l [][]api.Point, s []string, workers int) string {
	a, errA := Encodes(l, workers)
	b, errB := Decodes(s, workers)
	return fmt.Sprintf("%q %#v %v %#v", a, plainly(errA), b, plainly(errB))
}

// plainly an error, without an address.
func plainly(err error) string {
	if f, ok := err.(*api.Fault); ok {
		return fmt.Sprint(f.At, " ", f.Err)
	}
	return fmt.Sprint(err)
}

func TestByHoweverManyTheSame(t *testing.T) {
	for seed := range 16 {
		l := lists(1 + seed*13%100)
		s := texts(t, l)
		r := uint32(seed)
		for range seed % 4 {
			r = r*1664525 + 1013904223
			i := int(r>>16) % len(l)
			l[i], s[i] = at(0, int(r>>8)%3-1), s[i][:len(s[i])-1]
		}
		want := told(l, s, 1)
		everyone(func(w int) {
			for range 2 {
				if got := told(l, s, w); got != want {
					t.Errorf("%d by %d: %.200s; not %.200s", seed, w, got, want)
				}
			}
		})
	}
}

func FuzzDecodes(f *testing.F) {
	f.Add("", "\x00\xd2\x02\xef\x8d", 1)
	f.Add("abcde", "\xff", api.Workers)
	f.Fuzz(func(t *testing.T, a, b string, workers int) {
		l := []string{a, b, b + a, a}
		p, err := Decodes(l, workers)
		if workers < 1 || workers > api.Workers {
			if len(p) != 0 || err != api.ErrShape {
				t.Fatal(p, err)
			}
			return
		}
		for i, s := range l {
			want, wrong := chunk.Decode(s)
			if wrong != nil {
				if len(p) != 0 || !isFault(err, i, wrong) {
					t.Fatal(i, p, err, wrong)
				}
				return
			}
			if err != nil || !slices.Equal(p[i], want) {
				t.Fatal(i, p, err, want)
			}
		}
	})
}

// P3 and P4.

func TestOnlyRead(t *testing.T) {
	behind := api.Point{At: math.MinInt, Bit: 77}
	whole := [][]api.Point{append(at(1, 2, 3), behind), at(5), {behind}, {behind}}
	l := [][]api.Point{whole[0][:3], whole[1], whole[2][:0], whole[3]}
	s := append(texts(t, l[:3]), "behind")
	wasWhole, wasTexts := fmt.Sprint(whole, l), slices.Clone(s)
	everyone(func(w int) {
		if got, err := Encodes(l[:3], w); !slices.Equal(got, s[:3]) || err != nil {
			t.Error(w, got, err)
		}
		if got, err := Decodes(s[:3], w); !same(got, l[:3]) || err != nil {
			t.Error(w, got, err)
		}
		if _, err := Encodes(l, w); !isFault(err, 3, api.ErrBound) {
			t.Error(w, err)
		}
	})
	if fmt.Sprint(whole, l) != wasWhole || !slices.Equal(s, wasTexts) {
		t.Error(whole, l, s)
	}
}

func TestNewMemory(t *testing.T) {
	l := lists(20)
	s := texts(t, l)
	first, err := Decodes(s, 4)
	if err != nil {
		t.Fatal(err)
	}
	second, err := Decodes(s, 4)
	if err != nil {
		t.Fatal(err)
	}
	for i, x := range first {
		for k := range x {
			x[k] = api.Point{At: -77}
		}
		_ = append(x, api.Point{At: -78})
		// Those behind it are not yet written into.
		if !same(first[i+1:], l[i+1:]) {
			t.Fatal(i)
		}
	}
	if !same(second, l) {
		t.Error(second)
	}
	a, _ := Encodes(l, 4)
	b, _ := Encodes(l, 4)
	clear(a)
	if !slices.Equal(b, s) {
		t.Error(b)
	}
}

func TestNotKept(t *testing.T) {
	l := lists(20)
	s := texts(t, l)
	got, err := Encodes(l, 4)
	if err != nil {
		t.Fatal(err)
	}
	for _, x := range l {
		clear(x)
	}
	clear(l)
	if !slices.Equal(got, s) {
		t.Error(got)
	}
}
