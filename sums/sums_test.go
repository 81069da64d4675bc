package sums

import (
	"math"
	"slices"
	"testing"

	"tidegauge/api"
	"tidegauge/chunk"
)

const top = math.MaxUint64

// of values, points, ten ticks from one to the next.
func of(values ...uint64) []api.Point {
	var l []api.Point
	for i, v := range values {
		l = append(l, api.Point{At: 10 * i, Bit: v})
	}
	return l
}

// at these ticks are points, of values 1, 2, 4 and on, so that a total tells which ones it has.
func at(ticks ...int) []api.Point {
	var l []api.Point
	for i, n := range ticks {
		l = append(l, api.Point{At: n, Bit: 1 << i})
	}
	return l
}

// made points, by a fixed rule: steps of 1 to 9 ticks, values of every size.
func made(n int, seed uint64) []api.Point {
	var l []api.Point
	p := api.Point{At: -3 * n}
	for range n {
		seed = seed*6364136223846793005 + 1442695040888963407
		p.At += 1 + int(seed>>33%9)
		p.Bit = seed >> (seed >> 58)
		l = append(l, p)
	}
	return l
}

// counted is a sum by another way than the package's: each field is looked for in the list alone.
func counted(l []api.Point) Sum {
	if len(l) == 0 {
		return Sum{}
	}
	var values []uint64
	s := Sum{Count: len(l), Last: l[len(l)-1].Bit}
	for _, p := range l {
		values = append(values, p.Bit)
		s.Total += p.Bit
	}
	s.Least, s.Most = slices.Min(values), slices.Max(values)
	return s
}

// together are sums, one behind the other.
func together(l []Sum) Sum {
	var s Sum
	for _, x := range l {
		s = Add(s, x)
	}
	return s
}

// lists of all kinds, also such as are no chunk.
func lists() [][]api.Point {
	all := [][]api.Point{
		nil, {}, of(0), of(0, 0), of(5), of(top), of(top, top), of(0, top), of(top, 1), of(7, 0), of(3, 2, 1), of(1<<63, 1<<63, 1),
		at(0, 0, 0), at(9, 3, 6), at(math.MaxInt, math.MinInt), at(-api.MaxTime, api.MaxTime),
	}
	for n := range api.MaxPoints + 30 {
		all = append(all, made(n, uint64(n)))
	}
	return all
}

// P100.

func TestOf(t *testing.T) {
	for i, c := range []struct {
		l    []api.Point
		want Sum
	}{
		{nil, Sum{}},
		{[]api.Point{}, Sum{}},
		{of(0), Sum{Count: 1}},
		{of(0, 0), Sum{Count: 2}},
		{of(5), Sum{1, 5, 5, 5, 5}},
		{of(5, 3), Sum{2, 3, 5, 3, 8}},
		{of(3, 5, 4), Sum{3, 3, 5, 4, 12}},
		{of(3, 0), Sum{2, 0, 3, 0, 3}},
		{of(0, 3), Sum{2, 0, 3, 3, 3}},
		// Values are numbers from 0 on: the highest bit is no sign.
		{of(1<<63, 1), Sum{2, 1, 1 << 63, 1, 1<<63 + 1}},
		{of(1, top), Sum{2, 1, top, top, 0}},
		{of(top, top, top), Sum{3, top, top, top, top - 2}},
		{of(1<<63, 1<<63), Sum{2, 1 << 63, 1 << 63, 1 << 63, 0}},
		// Values as floats would be in another order.
		{of(math.Float64bits(-1), math.Float64bits(1)), Sum{2, math.Float64bits(1), math.Float64bits(-1), math.Float64bits(1), math.Float64bits(1) + math.Float64bits(-1)}},
		// The last one is at the list's end, whatever its tick is.
		{at(30, 20, 10), Sum{3, 1, 4, 4, 7}},
		{at(5, 5), Sum{2, 1, 2, 2, 3}},
		{at(math.MinInt, math.MaxInt, 0), Sum{3, 1, 4, 4, 7}},
	} {
		if s := Of(c.l); s != c.want {
			t.Errorf("%d: %v, not %v", i, s, c.want)
		}
	}
}

func TestOfMany(t *testing.T) {
	for i, l := range append(lists(), made(100000, 5)) {
		if s, want := Of(l), counted(l); s != want {
			t.Errorf("%d: %v, not %v", i, s, want)
		}
	}
}

func TestAdd(t *testing.T) {
	for i, c := range []struct{ a, b, want Sum }{
		{Sum{}, Sum{}, Sum{}},
		{Sum{}, Sum{2, 3, 5, 4, 8}, Sum{2, 3, 5, 4, 8}},
		{Sum{2, 3, 5, 4, 8}, Sum{}, Sum{2, 3, 5, 4, 8}},
		{Sum{2, 3, 5, 4, 8}, Sum{1, 9, 9, 9, 9}, Sum{3, 3, 9, 9, 17}},
		{Sum{1, 9, 9, 9, 9}, Sum{2, 3, 5, 4, 8}, Sum{3, 3, 9, 4, 17}},
		{Sum{2, 1, 9, 1, 10}, Sum{2, 4, 5, 5, 9}, Sum{4, 1, 9, 5, 19}},
		// Points of value 0 count, no points do not.
		{Sum{Count: 2}, Sum{1, 7, 7, 7, 7}, Sum{3, 0, 7, 7, 7}},
		{Sum{1, 7, 7, 7, 7}, Sum{Count: 2}, Sum{3, 0, 7, 0, 7}},
		{Sum{Count: 1}, Sum{Count: 1}, Sum{Count: 2}},
		{Sum{1, top, top, top, top}, Sum{1, 2, 2, 2, 2}, Sum{2, 2, top, 2, 1}},
	} {
		if s := Add(c.a, c.b); s != c.want {
			t.Errorf("%d: %v, not %v", i, s, c.want)
		}
	}
}

// A sum that no points have is of no use, but it is no reason to panic.
func TestAddOfNoSums(t *testing.T) {
	for _, n := range []int{math.MinInt, -1, 0, 1, math.MaxInt} {
		for _, m := range []int{math.MinInt, -1, 0, 1, math.MaxInt} {
			a, b := Sum{n, 9, 3, 7, top}, Sum{m, top, 0, 0, 1}
			if Add(a, b) != Add(a, b) {
				t.Error(n, m)
			}
		}
	}
}

// P101.

func TestSteps(t *testing.T) {
	for i, c := range []struct {
		l             []api.Point
		from, step, n int
		want          []Sum
	}{
		{of(1, 2, 3, 4, 5), 10, 15, 3, []Sum{{2, 2, 3, 3, 5}, {1, 4, 4, 4, 4}, {1, 5, 5, 5, 5}}},
		{nil, 0, 1, 0, nil},
		{at(0, 1), 0, 1, 0, nil},
		{nil, 0, 7, 2, []Sum{{}, {}}},
		// A stretch has its first tick, and not the next one's.
		{at(4, 5, 9, 10, 14, 15), 5, 5, 2, []Sum{{2, 2, 4, 4, 6}, {2, 8, 16, 16, 24}}},
		{at(4, 5, 6), 5, 1, 1, []Sum{{1, 2, 2, 2, 2}}},
		{at(0, 30), 0, 10, 4, []Sum{{1, 1, 1, 1, 1}, {}, {}, {1, 2, 2, 2, 2}}},
		{of(0, 0), 0, 10, 3, []Sum{{Count: 1}, {Count: 1}, {}}},
		// Below 0, and over it.
		{at(-11, -10, -6, -5, -1, 0, 4, 5), -10, 5, 3, []Sum{{2, 2, 4, 4, 6}, {2, 8, 16, 16, 24}, {2, 32, 64, 64, 96}}},
		{at(-3, -2, -1, 0, 1), -1, 3, 1, []Sum{{3, 4, 16, 16, 28}}},
		// Ticks in any order: each stretch has its points as they stand in the list.
		{at(12, 3, 11, 1, 2), 0, 10, 2, []Sum{{3, 2, 16, 16, 26}, {2, 1, 4, 4, 5}}},
		{at(3, 3, 3), 3, 1, 1, []Sum{{3, 1, 4, 4, 7}}},
		// What is beyond 64 bits is lost.
		{of(top, 2, 5), 0, 20, 2, []Sum{{2, 2, top, 2, 1}, {1, 5, 5, 5, 5}}},
	} {
		l, err := Steps(c.l, c.from, c.step, c.n)
		if !slices.Equal(l, c.want) || err != nil {
			t.Errorf("%d: %v, %v, not %v", i, l, err, c.want)
		}
	}
}

func TestStepsAtTheBounds(t *testing.T) {
	far := at(math.MinInt, -api.MaxTime-1, -api.MaxTime, 0, api.MaxTime, api.MaxTime+1, math.MaxInt-api.MaxTime, math.MaxInt-1, math.MaxInt)
	low, high, next := Sum{1, 4, 4, 4, 4}, Sum{1, 16, 16, 16, 16}, Sum{1, 32, 32, 32, 32}
	for i, c := range []struct {
		from, step, n int
		first, second Sum
	}{
		{-api.MaxTime, 1, api.MaxPoints, low, Sum{}},
		{-api.MaxTime, api.MaxSpan, api.MaxPoints, low, Sum{}},
		{api.MaxTime, 1, api.MaxPoints, high, next},
		{api.MaxTime, api.MaxSpan, api.MaxPoints, Add(high, next), Sum{}},
		{api.MaxTime - 1, 2, 2, high, next},
		{-api.MaxTime, 1, 1, low, Sum{}},
	} {
		l, err := Steps(far, c.from, c.step, c.n)
		if len(l) != c.n || err != nil {
			t.Fatal(i, l, err)
		}
		if l[0] != c.first || together(l[1:]) != c.second {
			t.Error(i, l)
		}
	}
}

func TestStepsOutOfBounds(t *testing.T) {
	for _, c := range [][3]int{
		{0, 0, 1}, {0, -1, 1}, {0, math.MinInt, 1}, {0, api.MaxSpan + 1, 1}, {0, math.MaxInt, 1}, {0, 0, 0},
		{0, 1, -1}, {0, 1, math.MinInt}, {0, 1, api.MaxPoints + 1}, {0, 1, math.MaxInt},
		{api.MaxTime + 1, 1, 1}, {-api.MaxTime - 1, 1, 1}, {math.MaxInt, 1, 1}, {math.MinInt, 1, 1}, {api.MaxTime + 1, 1, 0},
		{math.MaxInt, math.MaxInt, math.MaxInt}, {math.MinInt, math.MinInt, math.MinInt},
	} {
		for _, points := range [][]api.Point{nil, at(0, 1, 2)} {
			if l, err := Steps(points, c[0], c[1], c[2]); len(l) > 0 || err != api.ErrBound {
				t.Error(c, l, err)
			}
		}
	}
}

// Each stretch against the points that chunk finds in it.
func TestStepsOfMany(t *testing.T) {
	for i, points := range lists() {
		for _, c := range [][3]int{{-400, 7, 120}, {-50, 1, 100}, {0, 10, 12}, {3, 100000, 2}, {-360, 360, 1}, {-1, 2, 0}} {
			l, err := Steps(points, c[0], c[1], c[2])
			if len(l) != c[2] || err != nil {
				t.Fatal(i, c, l, err)
			}
			for k, s := range l {
				from := c[0] + k*c[1]
				if want := counted(chunk.Between(points, from, from+c[1]-1)); s != want {
					t.Error(i, c, k, s, want)
				}
			}
		}
	}
}

func TestTotal(t *testing.T) {
	for i, c := range []struct {
		l    []api.Row
		want Sum
	}{
		{nil, Sum{}},
		{[]api.Row{}, Sum{}},
		{[]api.Row{{}, {Series: "n=a"}}, Sum{}},
		{[]api.Row{{Points: of(1, 9)}, {}, {Points: of(4)}}, Sum{3, 1, 9, 4, 14}},
		// Behind each other as rows: later ticks ahead do not count as last.
		{[]api.Row{{Series: "n=a", Points: at(70, 80)}, {Series: "n=b", Points: of(6, 5)}}, Sum{4, 1, 6, 5, 14}},
		{[]api.Row{{}, {Points: of(3)}, {}}, Sum{1, 3, 3, 3, 3}},
		{[]api.Row{{Points: of(3)}, {Points: of(0)}}, Sum{2, 0, 3, 0, 3}},
		{[]api.Row{{Points: of(top)}, {Points: of(top)}}, Sum{2, top, top, top, top - 1}},
		// Rows need be no series, nor rise.
		{[]api.Row{{Series: "z", Points: of(2)}, {Series: "", Points: of(8)}, {Series: "z", Points: of(4)}}, Sum{3, 2, 8, 4, 14}},
	} {
		if s := Total(c.l); s != c.want {
			t.Errorf("%d: %v, not %v", i, s, c.want)
		}
	}
}

// P102.

// holdParts of points: cut in two, in three, by rows and by stretches, they are the whole.
func holdParts(t *testing.T, l []api.Point, i, j int) {
	t.Helper()
	a, b, c, whole := l[:i], l[i:j], l[j:], counted(l)
	for k, s := range []Sum{
		Add(Of(l[:i]), Of(l[i:])),
		Add(Add(Of(a), Of(b)), Of(c)),
		Add(Of(a), Add(Of(b), Of(c))),
		Total([]api.Row{{Points: a}, {Points: b}, {Points: c}}),
		Add(Total([]api.Row{{Points: a}}), Total([]api.Row{{Points: b}, {Points: c}})),
	} {
		if s != whole {
			t.Fatal(i, j, k, s, whole)
		}
	}
}

func TestPartsAreTheWhole(t *testing.T) {
	for _, l := range lists() {
		for i := 0; i <= len(l); i += 1 + len(l)/9 {
			for j := i; j <= len(l); j += 1 + len(l)/7 {
				holdParts(t, l, i, j)
			}
		}
	}
}

// Stretches of rising points together are one stretch, however they are cut.
func TestStretchesAreTheWhole(t *testing.T) {
	for seed := range uint64(30) {
		l := made(100, seed)
		for _, c := range [][2]int{{1, 120}, {2, 60}, {3, 40}, {10, 12}, {60, 2}, {120, 1}} {
			steps, err := Steps(l, -60, c[0], c[1])
			if err != nil {
				t.Fatal(err)
			}
			if s, want := together(steps), counted(chunk.Between(l, -60, 59)); s != want {
				t.Error(seed, c, s, want)
			}
		}
		all, err := Steps(l, -api.MaxSpan, api.MaxSpan, 2)
		if err != nil || together(all) != Of(l) {
			t.Error(seed, all, err)
		}
	}
}

// Stretches of parts, stretch by stretch, are the stretches of the whole.
func TestStretchesOfParts(t *testing.T) {
	for _, l := range lists() {
		whole, err := Steps(l, -100, 13, 30)
		if err != nil {
			t.Fatal(err)
		}
		for i := 0; i <= len(l); i += 1 + len(l)/9 {
			a, _ := Steps(l[:i], -100, 13, 30)
			b, _ := Steps(l[i:], -100, 13, 30)
			for k, s := range whole {
				if Add(a[k], b[k]) != s {
					t.Fatal(i, k, a[k], b[k], s)
				}
			}
		}
	}
}

func FuzzParts(f *testing.F) {
	f.Add([]byte{1, 2, 3, 250, 0, 0, 7}, -5, 3, 9)
	f.Add([]byte{}, 0, 1, 0)
	f.Add([]byte{255, 128}, api.MaxTime, api.MaxSpan, api.MaxPoints)
	f.Fuzz(func(t *testing.T, b []byte, from, step, n int) {
		var l []api.Point
		for i, x := range b {
			l = append(l, api.Point{At: from + int(int8(x)), Bit: uint64(x) << (i % 64)})
		}
		holdParts(t, l, len(l)/3, len(l)/2)
		steps, err := Steps(l, from, step, n)
		wrong := step < 1 || step > api.MaxSpan || n < 0 || n > api.MaxPoints || from < -api.MaxTime || from > api.MaxTime
		if wrong != (err == api.ErrBound) || !wrong && (err != nil || len(steps) != n) || wrong && len(steps) > 0 {
			t.Fatal(steps, err)
		}
		for k, s := range steps {
			first := from + k*step
			if want := counted(chunk.Between(l, first, first+step-1)); s != want {
				t.Fatal(k, s, want)
			}
		}
	})
}

// P3, P4.

func TestWhatIsHandedOverStays(t *testing.T) {
	memory := of(5, 3, 8, top)
	l, was := memory[:3], slices.Clone(memory)
	rows := []api.Row{{Series: "n=a", Points: l}, {Series: "n=b", Points: l[:1]}}
	s, sum := Of(l), Total(rows)
	steps, err := Steps(l, 0, 10, 4)
	if s != (Sum{3, 3, 8, 8, 16}) || sum != (Sum{4, 3, 8, 5, 21}) || err != nil || steps[3] != (Sum{}) {
		t.Error("what is behind the list is read", s, sum, steps, err)
	}
	if !slices.Equal(memory, was) || rows[0].Series != "n=a" || !slices.Equal(rows[1].Points, was[:1]) {
		t.Error("what is handed over is changed", memory, rows)
	}
}

func TestNewMemory(t *testing.T) {
	l := of(5, 3)
	a, _ := Steps(l, 0, 10, 2)
	b, _ := Steps(l, 0, 10, 2)
	a[0], l[1] = Sum{Count: 9}, api.Point{At: 10, Bit: 77}
	if b[0] != (Sum{1, 5, 5, 5, 5}) || a[1] != b[1] || b[1] != (Sum{1, 3, 3, 3, 3}) {
		t.Error(a, b)
	}
}
