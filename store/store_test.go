package store

import (
	"fmt"
	"math"
	"reflect"
	"slices"
	"strconv"
	"strings"
	"testing"

	"tidegauge/api"
	"tidegauge/block"
	"tidegauge/label"
	"tidegauge/wal"
)

// at a tick, a point whose value tells it from others.
func at(tick int) api.Point {
	return api.Point{At: tick, Bit: uint64(tick)*3 + 1}
}

// of points at ticks, a row.
func of(series string, ticks ...int) api.Row {
	r := api.Row{Series: series}
	for _, x := range ticks {
		r.Points = append(r.Points, at(x))
	}
	return r
}

// even ticks: so many, from one on.
func even(n, from int) []int {
	var l []int
	for i := range n {
		l = append(l, from+i)
	}
	return l
}

// disk with a log of rows, one behind the other.
func disk(t *testing.T, rows ...api.Row) *wal.Disk {
	t.Helper()
	d, err := wal.NewDisk("")
	if err != nil {
		t.Fatal(err)
	}
	for _, r := range rows {
		for _, p := range r.Points {
			if err := wal.Append(d, r.Series, p); err != nil {
				t.Fatal(r.Series, p, err)
			}
		}
	}
	return d
}

// opened store of a disk.
func opened(t *testing.T, d *wal.Disk, span, keep int) *Store {
	t.Helper()
	s, err := New(d, span, keep)
	if err != nil || s == nil {
		t.Fatal(s, err)
	}
	return s
}

// begun store, with rows added, and its disk.
func begun(t *testing.T, span, keep int, rows ...api.Row) (*Store, *wal.Disk) {
	t.Helper()
	d := disk(t)
	s := opened(t, d, span, keep)
	add(t, s, rows...)
	return s, d
}

// add rows that must go.
func add(t *testing.T, s *Store, rows ...api.Row) {
	t.Helper()
	for _, r := range rows {
		for _, p := range r.Points {
			if err := s.Add(r.Series, p); err != nil {
				t.Fatal(r.Series, p, err)
			}
		}
	}
}

// flush that must make so many blocks.
func flush(t *testing.T, s *Store, now, want int) {
	t.Helper()
	if n, err := s.Flush(now); n != want || err != nil {
		t.Fatal(now, n, err)
	}
}

// all rows that a store has.
func all(t *testing.T, s *Store) []api.Row {
	t.Helper()
	l, err := s.Select(nil, math.MinInt, math.MaxInt)
	if err != nil {
		t.Fatal(err)
	}
	return l
}

// spans of a store's blocks.
func spans(s *Store) string {
	var l []string
	for _, b := range s.Blocks() {
		l = append(l, fmt.Sprint(b.From, "+", b.Span))
	}
	return strings.Join(l, " ")
}

// told is everything that a store and its disk tell without being changed.
func told(t *testing.T, s *Store, d *wal.Disk) string {
	t.Helper()
	return fmt.Sprintf("%v %v %v %q", all(t, s), s.Blocks(), d.Power(), d.Bytes())
}

// holds tells whether a store has just these rows, in blocks of these spans and the head.
func holds(t *testing.T, s *Store, blocks string, rows ...api.Row) {
	t.Helper()
	if l := all(t, s); spans(s) != blocks || !slices.EqualFunc(l, rows, sameRow) {
		t.Errorf("%q %v; not %q %v", spans(s), l, blocks, rows)
	}
}

func sameRow(a, b api.Row) bool {
	return a.Series == b.Series && slices.Equal(a.Points, b.Points)
}

// isThat tells whether an error is just as another one: bare, or with the same place.
func isThat(err, want error) bool {
	return reflect.DeepEqual(err, want)
}

// darken a disk: power fails, and nothing more is written.
func darken(t *testing.T, d *wal.Disk) {
	t.Helper()
	if err := d.Cut(0); err != nil {
		t.Fatal(err)
	}
	if err := wal.Append(d, "n=a", at(1)); err != api.ErrOff || d.Power() {
		t.Fatal(err)
	}
}

// many rows, one point each, of so many series.
func many(n, tick int) []api.Row {
	var l []api.Row
	for i := range n {
		l = append(l, of("n="+strconv.Itoa(100+i), tick))
	}
	return l
}

// crammed disk: its log has not room for another record. The series' first record alone is one that a head takes.
func crammed(t *testing.T) *wal.Disk {
	t.Helper()
	d := disk(t)
	for {
		err := wal.Append(d, "n=a", at(7))
		if err == api.ErrFull {
			return d
		}
		if err != nil {
			t.Fatal(err)
		}
	}
}

// P90.

func TestNewBounds(t *testing.T) {
	for _, c := range []struct {
		span, keep int
		ok         bool
	}{
		{1, 1, true}, {api.MaxSpan, api.MaxBlocks, true}, {50, 6, true},
		{0, 1, false}, {-1, 1, false}, {math.MinInt, 1, false}, {api.MaxSpan + 1, 1, false}, {math.MaxInt, 1, false},
		{1, 0, false}, {1, -1, false}, {1, math.MinInt, false}, {1, api.MaxBlocks + 1, false}, {1, math.MaxInt, false},
		{0, 0, false},
	} {
		s, err := New(disk(t), c.span, c.keep)
		if (s != nil) != c.ok || c.ok && err != nil || !c.ok && err != api.ErrBound {
			t.Error(c, s, err)
		}
		// Bounds are told ahead of a disk that is none.
		want := api.ErrShape
		if !c.ok {
			want = api.ErrBound
		}
		if s, err := New(nil, c.span, c.keep); s != nil || err != want {
			t.Error(c, s, err)
		}
	}
}

func TestNewOutOfBoundsLeavesTheDisk(t *testing.T) {
	d := disk(t, of("n=a", 1))
	if err := d.Cut(3); err != nil {
		t.Fatal(err)
	}
	if err := wal.Append(d, "n=a", at(2)); err != api.ErrOff {
		t.Fatal(err)
	}
	was := d.Bytes()
	for _, c := range [][2]int{{0, 1}, {1, 0}} {
		if _, err := New(d, c[0], c[1]); err != api.ErrBound {
			t.Error(err)
		}
	}
	if d.Power() || d.Bytes() != was {
		t.Errorf("%v %q", d.Power(), d.Bytes())
	}
}

func TestNewOfAnEmptyDisk(t *testing.T) {
	s, d := begun(t, 10, 3)
	holds(t, s, "")
	if d.Bytes() != "" || len(s.Blocks()) != 0 {
		t.Errorf("%q %v", d.Bytes(), s.Blocks())
	}
}

func TestNewRecovers(t *testing.T) {
	d := disk(t, of("n=b", 0, 3), of("n=a", 2), of("n=b", 40))
	whole := d.Bytes()
	if err := d.Cut(9); err != nil {
		t.Fatal(err)
	}
	if err := wal.Append(d, "n=a", at(5)); err != api.ErrOff {
		t.Fatal(err)
	}
	s := opened(t, d, 10, 3)
	holds(t, s, "", of("n=a", 2), of("n=b", 0, 3, 40))
	if !d.Power() || d.Bytes() != whole {
		t.Errorf("%v %q", d.Power(), d.Bytes())
	}
	// The point in flight was never there; those recovered count as the last ones.
	add(t, s, of("n=a", 5))
	if err := s.Add("n=b", at(40)); err != api.ErrOld {
		t.Error(err)
	}
}

func TestNewPassesOver(t *testing.T) {
	rows := []api.Row{of("n=a", 5, 5, 4, -1), of("n=b", -3, -api.MaxTime), of("n=a", 6)}
	rows = append(rows, many(api.MaxSeries-1, 8)...)
	rows = append(rows, of("z=z", 1), of("n=100", 9), of("n=a", 0, 7))
	d := disk(t, rows...)
	was := d.Bytes()
	s := opened(t, d, 10, 3)
	want := many(api.MaxSeries-1, 8)
	want[0] = of("n=100", 8, 9)
	// n=b, whose ticks are below 0, is not known: else the last one of many would not be.
	holds(t, s, "", append(want, of("n=a", 5, 6, 7))...)
	if d.Bytes() != was {
		t.Error("the log is another one")
	}
	for _, series := range []string{"n=b", "z=z"} {
		if err := s.Add(series, at(20)); err != api.ErrFull {
			t.Error(series, err)
		}
	}
}

func TestNewHasNoBlocks(t *testing.T) {
	s, d := begun(t, 10, 3, of("n=a", 1, 11, 25))
	flush(t, s, 20, 2)
	x := opened(t, d, 10, 3)
	holds(t, x, "", of("n=a", 25))
	// The other one is as it was.
	holds(t, s, "0+10 10+10", of("n=a", 1, 11, 25))
	// No block is there, and another series may begin ahead of those that were.
	add(t, x, of("n=b", 0))
}

func TestAdd(t *testing.T) {
	s, d := begun(t, 10, 3)
	rows := []api.Row{of("n=b", 0), of("n=a", 3), of("n=b", 1, 99), of("m=x,n=a", api.MaxTime)}
	for i := range rows {
		add(t, s, rows[i])
		if d.Bytes() != disk(t, rows[:i+1]...).Bytes() {
			t.Errorf("%d: %q", i, d.Bytes())
		}
	}
	holds(t, s, "", of("m=x,n=a", api.MaxTime), of("n=a", 3), of("n=b", 0, 1, 99))
}

func TestAddKeepsValues(t *testing.T) {
	s, d := begun(t, 10, 3)
	want := []api.Point{{At: 0, Bit: math.MaxUint64}, {At: 1}, {At: 10, Bit: 1 << 63}, {At: 11, Bit: 1}}
	add(t, s, api.Row{Series: "n=a", Points: want})
	flush(t, s, 10, 1)
	for i, x := range []*Store{s, opened(t, d, 10, 3)} {
		if l := all(t, x); len(l) != 1 || !slices.Equal(l[0].Points, want[2*i:]) {
			t.Error(i, l)
		}
	}
}

// refused points: each is told just so, and changes nothing.
func refused(t *testing.T, s *Store, d *wal.Disk, series string, tick int, want error) {
	t.Helper()
	was := told(t, s, d)
	if err := s.Add(series, at(tick)); !isThat(err, want) {
		t.Errorf("%q at %d: %v; not %v", series, tick, err, want)
	}
	if told(t, s, d) != was {
		t.Errorf("%q at %d: %v; not %v", series, tick, told(t, s, d), was)
	}
}

func TestAddErrors(t *testing.T) {
	s, d := begun(t, 10, 3, many(api.MaxSeries, 25)...)
	add(t, s, of("n=100", 45))
	flush(t, s, 30, 1)
	wrong := []string{"", "n", "n=", "n=A", "n=b,m=a", "n=a,n=b", "m=x,n=", "a=1,b=2,c=3,d=4,e=5,f=6,g=7", strings.Repeat("n=a,", 100) + "n"}
	for _, power := range []bool{true, false} {
		if !power {
			darken(t, d)
		}
		for _, series := range wrong {
			_, want := label.Read(series)
			for _, tick := range []int{-1, 50, math.MinInt, math.MaxInt} {
				refused(t, s, d, series, tick, want)
			}
		}
		for _, series := range []string{"n=100", "n=101", "z=z"} {
			for _, tick := range []int{-1, -api.MaxTime, math.MinInt, api.MaxTime + 1, math.MaxInt} {
				refused(t, s, d, series, tick, api.ErrBound)
			}
		}
		for _, tick := range []int{0, 24, 25, 29, 30, 44, 45} {
			refused(t, s, d, "n=100", tick, api.ErrOld)
		}
		// What the head tells is told ahead of the block's end.
		for _, tick := range []int{0, 29, 30, api.MaxTime} {
			refused(t, s, d, "z=z", tick, api.ErrFull)
		}
		for _, tick := range []int{0, 25, 26, 29} {
			refused(t, s, d, "n=101", tick, api.ErrOld)
		}
	}
	refused(t, s, d, "n=101", 30, api.ErrOff)
	d.On()
	add(t, s, of("n=101", 30), of("n=100", 46))
}

func TestAddOldOfBlocks(t *testing.T) {
	s, d := begun(t, 10, 1, of("n=a", 3, 14, 42))
	// A series that no block has is held against their end as well.
	flush(t, s, 10, 1)
	refused(t, s, d, "n=b", 9, api.ErrOld)
	add(t, s, of("n=b", 10))
	flush(t, s, 50, 2)
	for _, tick := range []int{0, 20, 49} {
		refused(t, s, d, "n=c", tick, api.ErrOld)
		refused(t, s, d, "n=a", tick, api.ErrOld)
	}
	// It is the newest block's end that counts, not what was flushed.
	flush(t, s, 5000, 0)
	add(t, s, of("n=c", 50))
	holds(t, s, "40+10", of("n=a", 42), of("n=c", 50))
}

func TestAddOldOfJoinedBlocks(t *testing.T) {
	s, d := begun(t, 10, 3, of("n=a", 3, 14))
	flush(t, s, 20, 2)
	if is, err := s.Compact(); !is || err != nil {
		t.Fatal(is, err)
	}
	refused(t, s, d, "n=b", 19, api.ErrOld)
	add(t, s, of("n=b", 20))
}

func TestAddToAFullLog(t *testing.T) {
	d := crammed(t)
	s := opened(t, d, 10, 3)
	refused(t, s, d, "n=a", 8, api.ErrFull)
	refused(t, s, d, "n=b", 0, api.ErrFull)
	holds(t, s, "", of("n=a", 7))
	// Flush writes the log anew, without what was passed over.
	flush(t, s, 0, 0)
	if d.Bytes() != disk(t, of("n=a", 7)).Bytes() {
		t.Error(len(d.Bytes()))
	}
	add(t, s, of("n=a", 8), of("n=b", 0))
}

func TestAddWithoutPower(t *testing.T) {
	record := disk(t, of("n=b", 3)).Bytes()
	for n := range len(record) {
		s, d := begun(t, 10, 3, of("n=a", 1, 2))
		was := d.Bytes()
		if err := d.Cut(n); err != nil {
			t.Fatal(err)
		}
		if err := s.Add("n=b", at(3)); err != api.ErrOff {
			t.Fatal(n, err)
		}
		// As far as power goes it is written; the head has nothing of it.
		if d.Power() || d.Bytes() != was+record[:n] {
			t.Errorf("%d: %q", n, d.Bytes())
		}
		holds(t, s, "", of("n=a", 1, 2))
		x := opened(t, d, 10, 3)
		holds(t, x, "", of("n=a", 1, 2))
		add(t, x, of("n=b", 3), of("n=a", 3))
		holds(t, x, "", of("n=a", 1, 2, 3), of("n=b", 3))
		// Nor does the first one know the series, or its tick.
		add(t, s, of("n=b", 0))
	}
}

func TestAddOffMakesNothingKnown(t *testing.T) {
	s, d := begun(t, 10, 3)
	darken(t, d)
	for _, r := range many(2*api.MaxSeries, 1) {
		refused(t, s, d, r.Series, 1, api.ErrOff)
	}
	d.On()
	add(t, s, many(api.MaxSeries, 0)...)
}

func TestStoresAreApart(t *testing.T) {
	a, _ := begun(t, 10, 3, of("n=a", 1, 12))
	b, _ := begun(t, 10, 3, of("n=b", 2))
	flush(t, a, 10, 1)
	holds(t, a, "0+10", of("n=a", 1, 12))
	holds(t, b, "", of("n=b", 2))
}

// P91.

func TestFlushBounds(t *testing.T) {
	s, d := begun(t, 10, 3, of("n=a", 1, 12), of("n=b", 0), of("n=a", 20))
	was := told(t, s, d)
	for _, now := range []int{-api.MaxTime - 1, api.MaxTime + 1, math.MinInt, math.MaxInt} {
		if n, err := s.Flush(now); n != 0 || err != api.ErrBound {
			t.Error(now, n, err)
		}
		if told(t, s, d) != was { // the log is not even put in order
			t.Error(now, told(t, s, d))
		}
	}
	flush(t, s, -api.MaxTime, 0)
	holds(t, s, "", of("n=a", 1, 12, 20), of("n=b", 0))
	flush(t, s, api.MaxTime, 3)
	holds(t, s, "0+10 10+10 20+10", of("n=a", 1, 12, 20), of("n=b", 0))
}

func TestFlushEnds(t *testing.T) {
	rows := []api.Row{of("n=a", 0, 9, 10, 19, 20, 35), of("n=b", 9, 29)}
	for _, c := range []struct {
		now, n int
		blocks string
		left   []api.Row
	}{
		{-15, 0, "", rows}, {-10, 0, "", rows}, {-1, 0, "", rows}, {0, 0, "", rows}, {9, 0, "", rows},
		{10, 1, "0+10", []api.Row{of("n=a", 10, 19, 20, 35), of("n=b", 29)}},
		{19, 1, "0+10", []api.Row{of("n=a", 10, 19, 20, 35), of("n=b", 29)}},
		{20, 2, "0+10 10+10", []api.Row{of("n=a", 20, 35), of("n=b", 29)}},
		{29, 2, "0+10 10+10", []api.Row{of("n=a", 20, 35), of("n=b", 29)}},
		{39, 3, "0+10 10+10 20+10", []api.Row{of("n=a", 35)}},
		{40, 4, "0+10 10+10 20+10 30+10", nil},
		{api.MaxTime, 4, "0+10 10+10 20+10 30+10", nil},
	} {
		s, d := begun(t, 10, 9, rows...)
		flush(t, s, c.now, c.n)
		holds(t, s, c.blocks, rows...)
		if d.Bytes() != disk(t, c.left...).Bytes() {
			t.Errorf("%d: %q", c.now, d.Bytes())
		}
		// What has passed has gone; again it makes none.
		flush(t, s, c.now, 0)
		holds(t, s, c.blocks, rows...)
		holds(t, opened(t, d, 10, 9), "", c.left...)
	}
}

func TestFlushMakesBlocksAsMakeDoes(t *testing.T) {
	s, _ := begun(t, 10, 9, of("n=b", 3, 12), of("n=a", 0, 9, 31), of("m=x,n=a", 8))
	flush(t, s, 100, 3)
	var want []block.Block
	for _, c := range []struct {
		from int
		rows []api.Row
	}{
		{0, []api.Row{of("m=x,n=a", 8), of("n=a", 0, 9), of("n=b", 3)}},
		{10, []api.Row{of("n=b", 12)}},
		{30, []api.Row{of("n=a", 31)}}, // none from 20 on: no points are there
	} {
		b, err := block.Make(c.from, 10, c.rows)
		if err != nil {
			t.Fatal(err)
		}
		want = append(want, b)
	}
	if l := s.Blocks(); !reflect.DeepEqual(l, want) {
		t.Error(l, want)
	}
}

func TestFlushSpans(t *testing.T) {
	s, _ := begun(t, 1, 9, of("n=a", 0, 1, 3), of("n=b", 1))
	flush(t, s, 3, 2)
	holds(t, s, "0+1 1+1", of("n=a", 0, 1, 3), of("n=b", 1))
	flush(t, s, 4, 1)
	holds(t, s, "0+1 1+1 3+1", of("n=a", 0, 1, 3), of("n=b", 1))
	s, _ = begun(t, api.MaxSpan, 9, of("n=a", 0, api.MaxSpan-1, api.MaxSpan))
	flush(t, s, api.MaxSpan-1, 0)
	flush(t, s, api.MaxSpan, 1)
	holds(t, s, "0+100000", of("n=a", 0, api.MaxSpan-1, api.MaxSpan))
}

func TestFlushAtTheEndOfTime(t *testing.T) {
	ticks := []int{0, api.MaxTime - 1, api.MaxTime}
	s, d := begun(t, 1, 9, of("n=a", ticks...))
	flush(t, s, api.MaxTime-1, 1)
	flush(t, s, api.MaxTime, 1)
	// A stretch that ends behind the last tick that now may be stays in the head.
	holds(t, s, fmt.Sprint("0+1 ", api.MaxTime-1, "+1"), of("n=a", ticks...))
	flush(t, s, api.MaxTime, 0)
	if d.Bytes() != disk(t, of("n=a", api.MaxTime)).Bytes() {
		t.Errorf("%q", d.Bytes())
	}
}

func TestFlushForgetsTheEldest(t *testing.T) {
	rows := of("n=a", 1, 11, 21, 31, 41, 55)
	for keep, want := range []string{"", "40+10", "30+10 40+10", "20+10 30+10 40+10", "10+10 20+10 30+10 40+10", "0+10 10+10 20+10 30+10 40+10", "0+10 10+10 20+10 30+10 40+10"} {
		if keep == 0 {
			continue
		}
		left := api.Row{Series: "n=a", Points: rows.Points[max(0, 5-keep):]}
		s, _ := begun(t, 10, keep, rows)
		flush(t, s, 50, 5) // they were made, though some of them went at once
		holds(t, s, want, left)
		// One by one it is the same.
		s, _ = begun(t, 10, keep, rows)
		for i := range 5 {
			flush(t, s, 10+10*i, 1)
		}
		holds(t, s, want, left)
	}
}

func TestFlushForgetsJoinedBlocks(t *testing.T) {
	s, _ := begun(t, 10, 2, of("n=a", 1, 11, 21, 31))
	flush(t, s, 20, 2)
	if is, err := s.Compact(); !is || err != nil {
		t.Fatal(is, err)
	}
	flush(t, s, 30, 1) // a joined block is one
	holds(t, s, "0+20 20+10", of("n=a", 1, 11, 21, 31))
	flush(t, s, 40, 1)
	holds(t, s, "20+10 30+10", of("n=a", 21, 31))
}

func TestFlushKeepsLastTicks(t *testing.T) {
	s, d := begun(t, 10, 1, many(api.MaxSeries, 5)...)
	flush(t, s, 10, 1)
	if d.Bytes() != "" {
		t.Errorf("%q", d.Bytes())
	}
	// Series stay known without points in the head.
	refused(t, s, d, "z=z", 50, api.ErrFull)
	add(t, s, of("n=100", 50))
}

func TestFlushWritesTheLogSeriesBySeries(t *testing.T) {
	s, d := begun(t, 10, 3, of("n=b", 2), of("n=a", 3), of("n=b", 14), of("m=x", 15), of("n=a", 16, 17))
	flush(t, s, 5, 0) // also where no block is made
	if d.Bytes() != disk(t, of("m=x", 15), of("n=a", 3, 16, 17), of("n=b", 2, 14)).Bytes() {
		t.Errorf("%q", d.Bytes())
	}
	flush(t, s, 10, 1)
	if d.Bytes() != disk(t, of("m=x", 15), of("n=a", 16, 17), of("n=b", 14)).Bytes() {
		t.Errorf("%q", d.Bytes())
	}
}

func TestFlushOfTooMuch(t *testing.T) {
	few, much := even(api.MaxPoints, 200), even(api.MaxPoints+1, 400)
	// The stretch of 200 has just as many of n=a as a chunk may have, that of 400 one more of n=b.
	rows := []api.Row{of("n=a", append([]int{5}, few...)...), of("n=b", append(append([]int{6, 201}, much...), 700)...), of("n=c", 450)}
	for i, c := range []struct {
		keep, now int
		blocks    string
		rows      []api.Row
	}{
		{3, 600, "0+200 200+200", rows},
		{3, 5000, "0+200 200+200", rows},
		{1, 5000, "200+200", []api.Row{of("n=a", few...), of("n=b", append(append([]int{201}, much...), 700)...), of("n=c", 450)}},
	} {
		s, d := begun(t, 200, c.keep, rows...)
		n, err := s.Flush(c.now)
		if n != 0 || err != api.ErrFull {
			t.Error(i, n, err)
		}
		holds(t, s, c.blocks, c.rows...)
		// The log has what is left, also of the stretch behind.
		left := []api.Row{of("n=b", append(much, 700)...), of("n=c", 450)}
		if d.Bytes() != disk(t, left...).Bytes() {
			t.Error(i, "the log is another one")
		}
		// It stays so, and points are added on.
		if n, err := s.Flush(c.now); n != 0 || err != api.ErrFull {
			t.Error(i, n, err)
		}
		holds(t, s, c.blocks, c.rows...)
		refused(t, s, d, "n=c", 399, api.ErrOld)
		add(t, s, of("n=a", 400), of("n=b", 701))
	}
}

func TestFlushOfTooMuchThatHasNotPassed(t *testing.T) {
	rows := []api.Row{of("n=a", append([]int{5}, even(api.MaxPoints+1, 200)...)...)}
	s, _ := begun(t, 200, 3, rows...)
	flush(t, s, 399, 1)
	holds(t, s, "0+200", rows...)
	if n, err := s.Flush(400); n != 0 || err != api.ErrFull {
		t.Error(n, err)
	}
}

func TestFlushWithoutPower(t *testing.T) {
	rows := []api.Row{of("n=a", 1, 11, 12), of("n=b", 2, 13)}
	s, d := begun(t, 10, 3, rows...)
	was := d.Bytes()
	darken(t, d)
	if n, err := s.Flush(10); n != 0 || err != api.ErrOff {
		t.Error(n, err)
	}
	// Blocks stay, and the log as well: it has all, the blocks' points too.
	holds(t, s, "0+10", rows...)
	if d.Power() || d.Bytes() != was {
		t.Errorf("%q", d.Bytes())
	}
	holds(t, opened(t, d, 10, 3), "", rows...)
	// With power again the log is put right.
	flush(t, s, 10, 0)
	if d.Bytes() != disk(t, of("n=a", 11, 12), of("n=b", 13)).Bytes() {
		t.Errorf("%q", d.Bytes())
	}
}

func TestFlushWherePowerFails(t *testing.T) {
	rows := []api.Row{of("n=a", 1, 11, 12), of("n=b", 2, 13)}
	anew := disk(t, of("n=a", 11, 12), of("n=b", 13)).Bytes()
	for n := range len(anew) + 2 {
		s, d := begun(t, 10, 3, rows...)
		if err := d.Cut(n); err != nil {
			t.Fatal(err)
		}
		made, err := s.Flush(10)
		if whole := n >= len(anew); whole && (made != 1 || err != nil) || !whole && (made != 0 || err != api.ErrOff) {
			t.Error(n, made, err)
		}
		holds(t, s, "0+10", rows...)
		if d.Bytes() != anew[:min(n, len(anew))] {
			t.Errorf("%d: %q", n, d.Bytes())
		}
	}
}

func TestFlushTellsTooMuchAheadOfTheLog(t *testing.T) {
	rows := of("n=a", append([]int{5}, even(api.MaxPoints+1, 200)...)...)
	s, d := begun(t, 200, 3, rows)
	darken(t, d)
	if n, err := s.Flush(400); n != 0 || err != api.ErrFull {
		t.Error(n, err)
	}
	holds(t, s, "0+200", rows)
	// Where the first stretch is well, it is the log's.
	s, d = begun(t, 200, 3, rows)
	darken(t, d)
	if n, err := s.Flush(399); n != 0 || err != api.ErrOff {
		t.Error(n, err)
	}
	holds(t, s, "0+200", rows)
}

func TestFlushIntoALogTooSmall(t *testing.T) {
	s, d := begun(t, 10, 3)
	fill := func(series string) int {
		for i := 0; ; i++ {
			err := s.Add(series, at(100000+i))
			if err == api.ErrFull {
				return i
			}
			if err != nil {
				t.Fatal(err)
			}
		}
	}
	add(t, s, of("n=c", 1))
	first := fill("n=b")
	// The log is lost, and filled again: the head has more than a log can hold.
	if err := d.Cut(0); err != nil {
		t.Fatal(err)
	}
	if n, err := s.Flush(0); n != 0 || err != api.ErrOff || d.Bytes() != "" {
		t.Fatal(n, err)
	}
	d.On()
	second := fill("n=a")
	want := []api.Row{of("n=a", even(second, 100000)...), of("n=b", even(first, 100000)...), of("n=c", 1)}
	if n, err := s.Flush(10); n != 0 || err != api.ErrFull {
		t.Error(n, err)
	}
	holds(t, s, "0+10", want...)
	if d.Bytes() != disk(t, want[0]).Bytes() {
		t.Error("the log is another one")
	}
}

// P92.

func match(kind byte, name, value string) api.Match {
	return api.Match{Kind: kind, Label: api.Label{Name: name, Value: value}}
}

// mixed store: series in blocks, in the head, and in both.
func mixed(t *testing.T) *Store {
	t.Helper()
	s, _ := begun(t, 10, 9, of("n=b", 2), of("n=a", 3, 9, 10, 25), of("m=x,n=a", 12), of("o=a", 25, 26), of("n=ab", 0))
	flush(t, s, 20, 2)
	return s
}

func TestSelect(t *testing.T) {
	s := mixed(t)
	for i, c := range []struct {
		m        []api.Match
		from, to int
		want     []api.Row
	}{
		{nil, 0, 99, []api.Row{of("m=x,n=a", 12), of("n=a", 3, 9, 10, 25), of("n=ab", 0), of("n=b", 2), of("o=a", 25, 26)}},
		{nil, math.MinInt, math.MaxInt, []api.Row{of("m=x,n=a", 12), of("n=a", 3, 9, 10, 25), of("n=ab", 0), of("n=b", 2), of("o=a", 25, 26)}},
		{nil, 3, 25, []api.Row{of("m=x,n=a", 12), of("n=a", 3, 9, 10, 25), of("o=a", 25)}}, // both ends are with them
		{nil, 4, 24, []api.Row{of("m=x,n=a", 12), of("n=a", 9, 10)}},
		{nil, 0, 0, []api.Row{of("n=ab", 0)}},
		{nil, 26, 26, []api.Row{of("o=a", 26)}},
		{nil, 27, 99, nil},
		{nil, -9, -1, nil},
		{nil, 9, 3, nil},
		{nil, math.MaxInt, math.MinInt, nil},
		{[]api.Match{}, 2, 2, []api.Row{of("n=b", 2)}},
		{[]api.Match{match('=', "n", "a")}, 0, 99, []api.Row{of("m=x,n=a", 12), of("n=a", 3, 9, 10, 25)}},
		{[]api.Match{match('=', "n", "a"), match('=', "m", "")}, 0, 99, []api.Row{of("n=a", 3, 9, 10, 25)}},
		{[]api.Match{match('~', "n", "a")}, 0, 99, []api.Row{of("m=x,n=a", 12), of("n=a", 3, 9, 10, 25), of("n=ab", 0)}},
		{[]api.Match{match('~', "n", "a")}, 4, 11, []api.Row{of("n=a", 9, 10)}},
		{[]api.Match{match('!', "n", "a")}, 0, 99, []api.Row{of("n=ab", 0), of("n=b", 2), of("o=a", 25, 26)}},
		{[]api.Match{match('=', "o", "a")}, 0, 99, []api.Row{of("o=a", 25, 26)}},
		{[]api.Match{match('=', "z", "a")}, 0, 99, nil},
		{slices.Repeat([]api.Match{match('=', "n", "b")}, api.MaxMatches), 0, 99, []api.Row{of("n=b", 2)}},
	} {
		if l, err := s.Select(c.m, c.from, c.to); !slices.EqualFunc(l, c.want, sameRow) || err != nil {
			t.Error(i, l, err)
		}
	}
}

func TestSelectErrors(t *testing.T) {
	empty, _ := begun(t, 10, 3)
	wrong := [][]api.Match{
		slices.Repeat([]api.Match{match('=', "n", "a")}, api.MaxMatches+1),
		make([]api.Match, api.MaxMatches+1),
		make([]api.Match, 1),
		{match('=', "n", "a"), match('?', "n", "a")},
		{match('=', "n", "a"), match('=', "N", "a")},
		{match('=', "none", "such"), match('=', "n", "a"), match('x', "", "")},
		{match('~', "", "")},
	}
	for i, m := range wrong {
		_, want := label.Fits([]api.Label{{Name: "n", Value: "a"}}, m)
		if want == nil {
			t.Fatal(i)
		}
		// Also where there is no series, or no tick.
		for _, s := range []*Store{empty, mixed(t)} {
			for _, to := range []int{-1, 99} {
				if l, err := s.Select(m, 0, to); len(l) > 0 || !isThat(err, want) {
					t.Error(i, l, err, want)
				}
			}
		}
	}
	if _, err := empty.Select([]api.Match{match('=', "n", "a"), match('?', "n", "a")}, 0, 1); !isThat(err, &api.Fault{At: 1, Err: api.ErrKind}) {
		t.Error(err)
	}
}

func TestSelectOfMuch(t *testing.T) {
	s, _ := begun(t, 120, api.MaxBlocks)
	for i := range api.MaxBlocks {
		add(t, s, of("n=a", even(api.MaxPoints, i*120)...), of("n=b", even(api.MaxPoints, i*120)...))
		flush(t, s, i*120+120, 1)
	}
	n := api.MaxBlocks * api.MaxPoints
	if l := all(t, s); len(l) != 2 || !sameRow(l[0], of("n=a", even(n, 0)...)) || !sameRow(l[1], of("n=b", even(n, 0)...)) {
		t.Error(len(l))
	}
}

func TestCompact(t *testing.T) {
	rows := []api.Row{of("n=a", 1, 11, 31, 41, 51, 60), of("n=b", 12, 32)}
	s, d := begun(t, 10, 9, rows...)
	if is, err := s.Compact(); is || err != nil {
		t.Error(is, err)
	}
	flush(t, s, 60, 5)
	log := d.Bytes()
	for _, want := range []string{"0+20 30+10 40+10 50+10", "0+20 30+20 50+10", "0+20 30+30"} {
		if is, err := s.Compact(); !is || err != nil {
			t.Error(is, err)
		}
		holds(t, s, want, rows...)
	}
	was := told(t, s, d)
	if is, err := s.Compact(); is || err != nil || told(t, s, d) != was || d.Bytes() != log {
		t.Error(is, err)
	}
	for _, b := range s.Blocks() {
		if err := block.Check(b); err != nil {
			t.Error(err)
		}
	}
}

func TestCompactJoinsAsJoinDoes(t *testing.T) {
	s, _ := begun(t, 10, 9, of("n=a", 1, 11), of("n=b", 12), of("m=x", 3))
	flush(t, s, 20, 2)
	was := s.Blocks()
	want, err := block.Join(was[0], was[1])
	if err != nil {
		t.Fatal(err)
	}
	if is, err := s.Compact(); !is || err != nil || !reflect.DeepEqual(s.Blocks(), []block.Block{want}) {
		t.Error(is, err, s.Blocks())
	}
}

func TestCompactPassesOverWhatIsTooMuch(t *testing.T) {
	ticks := append(append(even(100, 0), even(100, 200)...), 400)
	s, _ := begun(t, 200, 9, of("n=a", ticks...))
	flush(t, s, 600, 3)
	// The first two would have 200 points; the second and the third have 101.
	if is, err := s.Compact(); !is || err != nil {
		t.Error(is, err)
	}
	holds(t, s, "0+200 200+400", of("n=a", ticks...))
	if is, err := s.Compact(); is || err != nil {
		t.Error(is, err)
	}
	// Spans together of more than MaxSpan are too much as well.
	s, _ = begun(t, api.MaxSpan/2+1, 9, of("n=a", 0, api.MaxSpan))
	flush(t, s, 2*api.MaxSpan, 2)
	if is, err := s.Compact(); is || err != nil {
		t.Error(is, err)
	}
	s, _ = begun(t, api.MaxSpan/2, 9, of("n=a", 0, api.MaxSpan/2))
	flush(t, s, api.MaxSpan, 2)
	if is, err := s.Compact(); !is || err != nil {
		t.Error(is, err)
	}
}

// P4: what is told is new memory.

func TestAnswersAreNew(t *testing.T) {
	s := mixed(t)
	was := fmt.Sprint(all(t, s), s.Blocks())
	for _, r := range all(t, s) {
		l := append(r.Points, at(-77))
		for i := range l {
			l[i] = at(-99)
		}
	}
	if fmt.Sprint(all(t, s), s.Blocks()) != was {
		t.Error(all(t, s))
	}
	l := s.Blocks()
	for i := range l {
		clear(append(l[i].Series, "z=z"))
		clear(append(l[i].Chunks, "z"))
		l[i] = block.Block{}
	}
	if fmt.Sprint(all(t, s), s.Blocks()) != was {
		t.Error(s.Blocks())
	}
	// Nor does what comes later show in what was told ahead.
	rows, blocks := all(t, s), s.Blocks()
	old := fmt.Sprint(rows, blocks)
	add(t, s, of("n=a", 27, 28))
	flush(t, s, 30, 1)
	for range 2 {
		if is, err := s.Compact(); !is || err != nil {
			t.Fatal(is, err)
		}
	}
	if fmt.Sprint(rows, blocks) != old {
		t.Error(rows, blocks)
	}
}

func TestMatchesAreOnlyRead(t *testing.T) {
	room := []api.Match{match('=', "n", "a"), match('x', "", "")}
	if l, err := mixed(t).Select(room[:1], 0, 99); len(l) != 2 || err != nil {
		t.Error(l, err)
	}
	if !slices.Equal(room, []api.Match{match('=', "n", "a"), match('x', "", "")}) {
		t.Error(room)
	}
}
