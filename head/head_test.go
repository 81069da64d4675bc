package head

import (
	"errors"
	"fmt"
	"math"
	"reflect"
	"slices"
	"sort"
	"strconv"
	"strings"
	"testing"

	"tidegauge/api"
	"tidegauge/label"
)

// at a tick, a point whose value tells it from others.
func at(tick int) api.Point {
	return api.Point{At: tick, Bit: uint64(tick)*3 + 1}
}

// of points at ticks, a list.
func of(ticks ...int) []api.Point {
	var l []api.Point
	for _, x := range ticks {
		l = append(l, at(x))
	}
	return l
}

// filled head: of each series these ticks, in this order.
func filled(t *testing.T, lines map[string][]int) *Head {
	t.Helper()
	h := New()
	for s, ticks := range lines {
		for _, x := range ticks {
			if err := h.Add(s, at(x)); err != nil {
				t.Fatal(s, x, err)
			}
		}
	}
	return h
}

// told is everything that a head tells without being changed.
func told(h *Head) string {
	s := fmt.Sprint(h.Count())
	for _, x := range h.Series() {
		s += fmt.Sprint(" ", x, h.Points(x, math.MinInt, math.MaxInt))
	}
	return s
}

// full head: MaxSeries are known, each with a point at 5.
func full(t *testing.T) *Head {
	t.Helper()
	lines := map[string][]int{}
	for i := range api.MaxSeries {
		lines["n="+strconv.Itoa(i)] = []int{5}
	}
	return filled(t, lines)
}

// P60.

func TestNewHasNothing(t *testing.T) {
	h := New()
	if h == nil || len(h.Series()) != 0 || h.Count() != 0 || len(h.Points("n=a", math.MinInt, math.MaxInt)) != 0 {
		t.Error(told(h))
	}
}

func TestHeadsAreApart(t *testing.T) {
	a, b := New(), New()
	if err := a.Add("n=a", at(1)); err != nil {
		t.Fatal(err)
	}
	if told(b) != "0" || b.Add("n=a", at(1)) != nil {
		t.Error(told(b))
	}
}

func TestAdd(t *testing.T) {
	h := New()
	for i, c := range []struct {
		series string
		p      api.Point
	}{
		{"n=a", api.Point{At: -api.MaxTime, Bit: math.MaxUint64}},
		{"n=a", api.Point{At: -api.MaxTime + 1}},
		{"n=a", api.Point{At: -1, Bit: 7}},
		{"n=a", api.Point{At: 0, Bit: 7}},
		{"n=b", api.Point{At: -5, Bit: 1}}, // another series begins where it will
		{"n=a", api.Point{At: 1, Bit: 7}},
		{"n=a", api.Point{At: api.MaxTime, Bit: 1 << 63}},
		{"m=x,n=a", api.Point{At: api.MaxTime}},
	} {
		if err := h.Add(c.series, c.p); err != nil {
			t.Error(i, err)
		}
		if h.Count() != i+1 {
			t.Error(i, h.Count())
		}
	}
	want := []api.Point{{At: -api.MaxTime, Bit: math.MaxUint64}, {At: -api.MaxTime + 1}, {At: -1, Bit: 7}, {At: 0, Bit: 7}, {At: 1, Bit: 7}, {At: api.MaxTime, Bit: 1 << 63}}
	if l := h.Points("n=a", math.MinInt, math.MaxInt); !slices.Equal(l, want) {
		t.Error(l)
	}
	if l := h.Points("n=b", -5, -5); !slices.Equal(l, []api.Point{{At: -5, Bit: 1}}) {
		t.Error(l)
	}
}

func TestAddManyPoints(t *testing.T) {
	h, n := New(), 20*api.MaxPoints // a head's series is no chunk
	for i := range n {
		if err := h.Add("n=a", at(i)); err != nil {
			t.Fatal(i, err)
		}
	}
	if l := h.Points("n=a", 0, n); len(l) != n || h.Count() != n {
		t.Error(len(l), h.Count())
	}
}

// isThat tells whether an error is just as another one: bare, or with the same place.
func isThat(err, want error) bool {
	return reflect.DeepEqual(err, want)
}

func TestAddTellsReadsErrors(t *testing.T) {
	wrong := []string{"", "n", "n=", "=a", "n=A", "N=a", "n=a,", "n=b,m=a", "n=a,n=b", "m=x,n=", "0=a", "n=a b", "n==a", "n=a\n", "abcdefghijklm=a", "n=" + strings.Repeat("x", 13), "a=1,b=2,c=3,d=4,e=5,f=6,g=7", strings.Repeat("a", 1<<17), "\xff=\x00"}
	for _, h := range []*Head{New(), filled(t, map[string][]int{"n=a": {4}}), full(t)} {
		was := told(h)
		for _, s := range wrong {
			_, want := label.Read(s)
			if want == nil {
				t.Fatalf("%q is right", s)
			}
			// The series is told ahead of a tick out of bounds.
			for _, x := range []int{9, math.MaxInt, math.MinInt} {
				if err := h.Add(s, at(x)); !isThat(err, want) {
					t.Errorf("%q at %d: %v; not %v", s, x, err, want)
				}
			}
			if l := h.Points(s, math.MinInt, math.MaxInt); len(l) > 0 {
				t.Errorf("%q: %v", s, l)
			}
		}
		if told(h) != was {
			t.Error(told(h), was)
		}
	}
	var f *api.Fault
	if err := New().Add("m=x,n=A", at(1)); !errors.As(err, &f) || f.At != 1 || f.Err != api.ErrName {
		t.Errorf("%#v", err)
	}
	if err := New().Add("m=x,n", at(1)); err != api.ErrText {
		t.Errorf("%#v", err)
	}
}

func TestAddOutOfBounds(t *testing.T) {
	for i, h := range []*Head{New(), filled(t, map[string][]int{"n=a": {4}}), filled(t, map[string][]int{"n=a": {api.MaxTime}}), full(t)} {
		was := told(h)
		// Ahead of ErrOld (a known series, also behind its last tick), and of ErrFull (a new one).
		for _, s := range []string{"n=a", "n=0", "n=zz"} {
			for _, x := range []int{-api.MaxTime - 1, api.MaxTime + 1, math.MinInt, math.MaxInt, 1 << 41, -1 << 62} {
				if err := h.Add(s, at(x)); err != api.ErrBound {
					t.Error(i, s, x, err)
				}
			}
		}
		if told(h) != was {
			t.Error(i, told(h))
		}
	}
}

func TestAddOld(t *testing.T) {
	h := filled(t, map[string][]int{"n=a": {-3, 4}, "n=b": {9}, "n=c": {-api.MaxTime}, "n=d": {api.MaxTime}})
	was := told(h)
	for _, c := range []struct {
		series string
		tick   int
	}{
		{"n=a", 4}, {"n=a", 3}, {"n=a", 0}, {"n=a", -3}, {"n=a", -4}, {"n=a", -api.MaxTime},
		{"n=b", 9}, {"n=b", 8}, {"n=c", -api.MaxTime}, {"n=d", api.MaxTime}, {"n=d", 0},
	} {
		if err := h.Add(c.series, at(c.tick)); err != api.ErrOld {
			t.Error(c, err)
		}
		// The same point, and another value at its tick, are old alike.
		if err := h.Add(c.series, api.Point{At: c.tick, Bit: 99}); err != api.ErrOld {
			t.Error(c, err)
		}
	}
	if told(h) != was {
		t.Error(told(h))
	}
	for s, x := range map[string]int{"n=a": 5, "n=b": 10, "n=c": -api.MaxTime + 1} {
		if err := h.Add(s, at(x)); err != nil {
			t.Error(s, x, err)
		}
	}
}

func TestAddOldBehindCut(t *testing.T) {
	h := filled(t, map[string][]int{"n=a": {-3, 4}, "n=b": {-8}})
	if _, err := h.Cut(100); err != nil || h.Count() != 0 {
		t.Fatal(err)
	}
	for s, l := range map[string][]int{"n=a": {-3, 0, 4}, "n=b": {-9, -8}} {
		for _, x := range l {
			if err := h.Add(s, at(x)); err != api.ErrOld {
				t.Error(s, x, err)
			}
		}
	}
	// Only the last tick counts, not where the cut was.
	if h.Add("n=a", at(5)) != nil || h.Add("n=b", at(-7)) != nil || h.Count() != 2 {
		t.Error(told(h))
	}
}

func TestAddFull(t *testing.T) {
	h := full(t)
	was := told(h)
	for _, x := range []int{-api.MaxTime, 0, 5, 6, api.MaxTime} {
		if err := h.Add("z=z", at(x)); err != api.ErrFull {
			t.Error(x, err)
		}
	}
	if told(h) != was {
		t.Error(told(h))
	}
	// Those that are known go on, the first and the last.
	for _, s := range []string{"n=0", "n=59"} {
		if err := h.Add(s, at(5)); err != api.ErrOld {
			t.Error(s, err)
		}
		if err := h.Add(s, at(6)); err != nil {
			t.Error(s, err)
		}
	}
	// Series stay known without points.
	if _, err := h.Cut(100); err != nil || h.Count() != 0 {
		t.Fatal(err)
	}
	if err := h.Add("z=z", at(200)); err != api.ErrFull {
		t.Error(err)
	}
	if err := h.Add("n=7", at(200)); err != nil || told(h) != fmt.Sprint("1 n=7", of(200)) {
		t.Error(err, told(h))
	}
}

func TestAddRefusedMakesNothingKnown(t *testing.T) {
	h := New()
	for i := range 3 * api.MaxSeries {
		s := "x=" + strconv.Itoa(i)
		if err := h.Add(s, at(api.MaxTime+1)); err != api.ErrBound {
			t.Fatal(i, err)
		}
		if err := h.Add(s+",", at(1)); err != api.ErrText {
			t.Fatal(i, err)
		}
		h.Points(s, 0, 9) // to ask makes nothing known either
	}
	for i := range api.MaxSeries {
		if err := h.Add("n="+strconv.Itoa(i), at(1)); err != nil {
			t.Fatal(i, err)
		}
	}
	// A refused tick is not the last one ever.
	if err := h.Add("n=0", at(api.MaxTime+1)); err != api.ErrBound || h.Add("n=0", at(2)) != nil {
		t.Error(err)
	}
}

func TestRefusesTellsWhatAddWould(t *testing.T) {
	h := full(t)
	was := told(h)
	for _, c := range []struct {
		series string
		tick   int
	}{{"n=0", 6}, {"n=0", 5}, {"n=0", -6}, {"n=0", api.MaxTime + 1}, {"n=0", math.MinInt}, {"z=z", 6}, {"z=z", math.MaxInt}, {"n", 6}, {"m=x,n=A", math.MaxInt}, {"", 0}} {
		first, again := h.Refuses(c.series, at(c.tick)), h.Refuses(c.series, at(c.tick))
		if told(h) != was {
			t.Fatal(c, told(h))
		}
		if err := full(t).Add(c.series, at(c.tick)); !isThat(first, err) || !isThat(again, err) {
			t.Error(c, first, again, err)
		}
	}
	// To ask makes no series known.
	h = New()
	for i := range 2 * api.MaxSeries {
		if err := h.Refuses("n="+strconv.Itoa(i), at(1)); err != nil {
			t.Error(i, err)
		}
	}
}

func TestSeriesRise(t *testing.T) {
	rising := []string{"a-=x", "a0=x", "a=-", "a=0", "a=x", "a=x,b=x", "a=x-", "a=x0", "a=xx", "b=x"}
	sort.Strings(rising) // byte by byte, whatever stands above
	for _, first := range []int{0, 3, 7} {
		h := New()
		for i := range rising {
			if err := h.Add(rising[(i*3+first)%len(rising)], at(-i)); err != nil {
				t.Fatal(err)
			}
		}
		if l := h.Series(); !slices.Equal(l, rising) {
			t.Error(l)
		}
	}
}

func TestSeriesHavePointsNow(t *testing.T) {
	h := filled(t, map[string][]int{"n=a": {1, 2}, "n=b": {1, 9}, "n=c": {9}})
	for _, c := range []struct {
		before int
		want   string
	}{{2, "[n=a n=b n=c]"}, {3, "[n=b n=c]"}, {10, "[]"}} {
		if _, err := h.Cut(c.before); err != nil || fmt.Sprint(h.Series()) != c.want {
			t.Error(c, err, h.Series())
		}
	}
	if err := h.Add("n=b", at(10)); err != nil || fmt.Sprint(h.Series()) != "[n=b]" {
		t.Error(err, h.Series())
	}
}

func TestPoints(t *testing.T) {
	h := filled(t, map[string][]int{"n=a": {-3, 0, 4, 7}, "n=b": {5}})
	for i, c := range []struct {
		series   string
		from, to int
		want     []api.Point
	}{
		{"n=a", -3, 7, of(-3, 0, 4, 7)}, // both ends are with them
		{"n=a", -2, 6, of(0, 4)},
		{"n=a", 4, 4, of(4)},
		{"n=a", 5, 6, nil},
		{"n=a", 7, math.MaxInt, of(7)},
		{"n=a", math.MinInt, -3, of(-3)},
		{"n=a", math.MinInt, math.MaxInt, of(-3, 0, 4, 7)},
		{"n=a", 8, 100, nil},
		{"n=a", -100, -4, nil},
		{"n=a", 4, 0, nil},
		{"n=a", math.MaxInt, math.MinInt, nil},
		{"n=b", 0, 9, of(5)},
		{"n=c", 0, 9, nil},
		{"n", 0, 9, nil},
		{"", 0, 9, nil},
		{"n=a,o=x", -3, 7, nil},
	} {
		if l := h.Points(c.series, c.from, c.to); !slices.Equal(l, c.want) {
			t.Error(i, l)
		}
	}
}

// P61.

func TestCut(t *testing.T) {
	lines := map[string][]int{"n=b": {-3, 5, 9}, "n=a": {5, 6}, "m=x": {9}, "a-=x": {-api.MaxTime, api.MaxTime}}
	for i, c := range []struct {
		before int
		rows   []api.Row
		left   string
	}{
		{-api.MaxTime + 1, []api.Row{{Series: "a-=x", Points: of(-api.MaxTime)}},
			fmt.Sprint("7 a-=x", of(api.MaxTime), " m=x", of(9), " n=a", of(5, 6), " n=b", of(-3, 5, 9))},
		{5, []api.Row{{Series: "a-=x", Points: of(-api.MaxTime)}, {Series: "n=b", Points: of(-3)}}, // not that at 5
			fmt.Sprint("6 a-=x", of(api.MaxTime), " m=x", of(9), " n=a", of(5, 6), " n=b", of(5, 9))},
		{6, []api.Row{{Series: "a-=x", Points: of(-api.MaxTime)}, {Series: "n=a", Points: of(5)}, {Series: "n=b", Points: of(-3, 5)}},
			fmt.Sprint("4 a-=x", of(api.MaxTime), " m=x", of(9), " n=a", of(6), " n=b", of(9))},
		{10, []api.Row{{Series: "a-=x", Points: of(-api.MaxTime)}, {Series: "m=x", Points: of(9)}, {Series: "n=a", Points: of(5, 6)}, {Series: "n=b", Points: of(-3, 5, 9)}},
			fmt.Sprint("1 a-=x", of(api.MaxTime))},
		{math.MaxInt, []api.Row{{Series: "a-=x", Points: of(-api.MaxTime, api.MaxTime)}, {Series: "m=x", Points: of(9)}, {Series: "n=a", Points: of(5, 6)}, {Series: "n=b", Points: of(-3, 5, 9)}},
			"0"},
	} {
		h := filled(t, lines)
		if l, err := h.Cut(c.before); !reflect.DeepEqual(l, c.rows) || err != nil {
			t.Error(i, l, err)
		}
		if told(h) != c.left {
			t.Error(i, told(h))
		}
		if l, err := h.Cut(c.before); len(l) > 0 || err != api.ErrNone || told(h) != c.left {
			t.Error(i, l, err)
		}
	}
}

func TestCutNone(t *testing.T) {
	for i, h := range []*Head{New(), filled(t, map[string][]int{"n=a": {-3, 4}, "n=b": {-3}})} {
		was := told(h)
		for _, before := range []int{-3, -4, -api.MaxTime, math.MinInt} {
			if l, err := h.Cut(before); len(l) > 0 || err != api.ErrNone {
				t.Error(i, before, l, err)
			}
		}
		if told(h) != was {
			t.Error(i, told(h))
		}
	}
	if l, err := New().Cut(math.MaxInt); len(l) > 0 || err != api.ErrNone {
		t.Error(l, err)
	}
	// Known series without points are none either.
	h := filled(t, map[string][]int{"n=a": {1}})
	if _, err := h.Cut(2); err != nil {
		t.Fatal(err)
	}
	if l, err := h.Cut(math.MaxInt); len(l) > 0 || err != api.ErrNone {
		t.Error(l, err)
	}
}

// P4: what is told is new memory.

func TestAnswersAreNew(t *testing.T) {
	h := filled(t, map[string][]int{"n=a": {1, 2, 3, 4, 5}, "n=b": {2, 9}})
	was := told(h)
	spoil := func(l []api.Point) {
		l = append(l, at(-77)) // what lies behind its length is nobody's either
		for i := range l {
			l[i] = at(-99)
		}
	}
	spoil(h.Points("n=a", 1, 5))
	spoil(h.Points("n=a", 2, 3))
	s := append(h.Series(), "z=z")
	clear(s)
	if told(h) != was {
		t.Error(told(h))
	}
	rows, err := h.Cut(3)
	if err != nil || len(rows) != 2 {
		t.Fatal(rows, err)
	}
	left := fmt.Sprint("4 n=a", of(3, 4, 5), " n=b", of(9))
	spoil(rows[0].Points)
	if told(h) != left || !slices.Equal(rows[1].Points, of(2)) {
		t.Error(told(h), rows)
	}
	spoil(rows[1].Points)
	if told(h) != left || h.Add("n=a", at(6)) != nil || h.Add("n=b", at(10)) != nil {
		t.Error(told(h))
	}
	// Nor does what is added later show in what was told ahead.
	l := h.Points("n=a", 3, 9)
	rows, err = h.Cut(5)
	if err != nil || h.Add("n=a", at(7)) != nil || !slices.Equal(l, of(3, 4, 5, 6)) || !slices.Equal(rows[0].Points, of(3, 4)) {
		t.Error(l, rows, err)
	}
}

// P62, and all calls against a model: a list of what was added, in which nothing is found but by going through it.

type entry struct {
	series string
	p      api.Point
	gone   bool
}

type model []entry

func (m *model) add(series string, p api.Point) error {
	if _, err := label.Read(series); err != nil {
		return err
	}
	if p.At > api.MaxTime || p.At < -api.MaxTime {
		return api.ErrBound
	}
	others := map[string]int{}
	for _, e := range *m {
		if e.series != series {
			others[e.series]++
		} else if e.p.At >= p.At {
			return api.ErrOld
		}
	}
	if len(others) == api.MaxSeries {
		return api.ErrFull
	}
	*m = append(*m, entry{series: series, p: p})
	return nil
}

// rows of entries that are wanted.
func (m *model) rows(wanted func(e entry) bool) []api.Row {
	var rows []api.Row
	for _, e := range *m {
		if e.gone || !wanted(e) {
			continue
		}
		i := slices.IndexFunc(rows, func(r api.Row) bool { return r.Series == e.series })
		if i < 0 {
			i, rows = len(rows), append(rows, api.Row{Series: e.series})
		}
		rows[i].Points = append(rows[i].Points, e.p)
	}
	sort.Slice(rows, func(i, j int) bool { return rows[i].Series < rows[j].Series })
	return rows
}

func (m *model) cut(before int) ([]api.Row, error) {
	rows := m.rows(func(e entry) bool { return e.p.At < before })
	for i := range *m {
		(*m)[i].gone = (*m)[i].gone || (*m)[i].p.At < before
	}
	if len(rows) == 0 {
		return nil, api.ErrNone
	}
	return rows, nil
}

// checkRising: P62.
func checkRising(t *testing.T, l []api.Point) {
	t.Helper()
	for i := 1; i < len(l); i++ {
		if l[i].At <= l[i-1].At {
			t.Fatal(l)
		}
	}
}

// hold a head against its model.
func hold(t *testing.T, h *Head, m *model, from, to int) {
	t.Helper()
	n := 0
	var series []string
	for _, r := range m.rows(func(entry) bool { return true }) {
		n, series = n+len(r.Points), append(series, r.Series)
		all := h.Points(r.Series, math.MinInt, math.MaxInt)
		checkRising(t, all)
		if !slices.Equal(all, r.Points) {
			t.Fatal(r.Series, all, r.Points)
		}
		var some []api.Point
		for _, x := range m.rows(func(e entry) bool { return e.series == r.Series && from <= e.p.At && e.p.At <= to }) {
			some = x.Points
		}
		if l := h.Points(r.Series, from, to); !slices.Equal(l, some) {
			t.Fatal(r.Series, from, to, l, some)
		}
	}
	if h.Count() != n || !slices.Equal(h.Series(), series) {
		t.Fatal(h.Count(), n, h.Series(), series)
	}
}

// follow a script of bytes with a head, a second one, and a model.
func follow(t *testing.T, script []byte) {
	h, twin, m := New(), New(), &model{}
	for len(script) >= 3 {
		kind, a, b := script[0], int(script[1]), int(int8(script[2]))
		script = script[3:]
		switch {
		case kind%8 == 7:
			rows, err := h.Cut(b)
			want, wrong := m.cut(b)
			if !reflect.DeepEqual(rows, want) || err != wrong {
				t.Fatal(b, rows, err, want, wrong)
			}
			for _, r := range rows {
				checkRising(t, r.Points)
			}
			again, err2 := twin.Cut(b)
			if !reflect.DeepEqual(rows, again) || err != err2 {
				t.Fatal(again, err2)
			}
		default:
			s := "n=" + strconv.Itoa(a%70)
			if kind%8 == 6 {
				s = []string{"n", "n=A", "m=x,n=a", "n=a,m=x", "n-=0"}[a%5]
			}
			p := api.Point{At: b, Bit: uint64(kind)}
			if kind > 250 {
				p.At = b << 40
			}
			err := h.Add(s, p)
			if want := m.add(s, p); !isThat(err, want) {
				t.Fatal(s, p, err, want)
			}
			if again := twin.Add(s, p); !isThat(again, err) {
				t.Fatal(s, p, again)
			}
		}
		hold(t, h, m, b-9, a-40)
	}
	if told(h) != told(twin) {
		t.Fatal(told(h), told(twin))
	}
}

// bytesFrom a number, n of them, by a rule.
func bytesFrom(seed uint32, n int) []byte {
	var b []byte
	for range n {
		seed = seed*1664525 + 1013904223
		b = append(b, byte(seed>>24))
	}
	return b
}

func TestAgainstModel(t *testing.T) {
	for seed := range 20 {
		b := bytesFrom(uint32(seed), 900)
		if seed%2 == 0 { // few series and rising ticks, so that lines grow
			for i := 0; i+2 < len(b); i += 3 {
				b[i+1], b[i+2] = b[i+1]%4, byte(i/3-128+int(b[i+2]%5))
				if b[i]%8 == 7 {
					b[i+2] -= 20
				}
			}
		}
		follow(t, b)
	}
}

func FuzzHead(f *testing.F) {
	f.Add(bytesFrom(1, 60))
	f.Add([]byte{0, 1, 5, 0, 1, 6, 7, 0, 6, 0, 1, 5})
	f.Fuzz(func(t *testing.T, b []byte) {
		follow(t, b[:min(len(b), 600)])
	})
}
