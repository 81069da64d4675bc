package wave

import (
	"math"
	"strconv"
	"strings"
	"testing"

	"tidegauge/api"
	"tidegauge/bits"
)

// row of digits, of which a blank is none.
func row(t *testing.T, digits string) *bits.Row {
	t.Helper()
	r := bits.New()
	for _, d := range strings.ReplaceAll(digits, " ", "") {
		if err := r.Put(uint64(d-'0'), 1); err != nil {
			t.Fatal(err)
		}
	}
	return r
}

// reader of a row's bits.
func reader(t *testing.T, r *bits.Row) *bits.Reader {
	t.Helper()
	x, err := bits.Open(r.Bytes(), r.Len())
	if err != nil {
		t.Fatal(err)
	}
	return x
}

// digits of a row.
func digits(t *testing.T, r *bits.Row) string {
	t.Helper()
	var b strings.Builder
	for x := reader(t, r); x.Left() > 0; {
		bit, err := x.Get(1)
		if err != nil {
			t.Fatal(err)
		}
		b.WriteByte('0' + byte(bit))
	}
	return b.String()
}

// rowWithRoom has so many bits left.
func rowWithRoom(t *testing.T, room int) *bits.Row {
	t.Helper()
	r := bits.New()
	for r.Len() < api.MaxBits-room {
		if err := r.Put(0, min(64, api.MaxBits-room-r.Len())); err != nil {
			t.Fatal(err)
		}
	}
	return r
}

// padded digits of a number in so many bits.
func padded(n uint64, width int) string {
	s := strconv.FormatUint(n, 2)
	return strings.Repeat("0", width-len(s)) + s
}

// wanted digits of a number, by the document's words one by one.
func wanted(n int) string {
	switch {
	case n == 0:
		return "0"
	case n >= -63 && n <= 64:
		return "10" + padded(uint64(n+63), 7)
	case n >= -255 && n <= 256:
		return "110" + padded(uint64(n+255), 9)
	case n >= -2047 && n <= 2048:
		return "1110" + padded(uint64(n+2047), 12)
	}
	return "1111" + padded(uint64(n), 64)
}

// numbers of all forms: all that are near 0, and those near the powers of 2.
func numbers() []int {
	var l []int
	for n := -2200; n <= 2200; n++ {
		l = append(l, n)
	}
	for p := 12; p < 63; p++ {
		for d := -2; d <= 2; d++ {
			l = append(l, 1<<p+d, -1<<p+d)
		}
	}
	for d := range 3000 {
		l = append(l, math.MinInt+d, math.MaxInt-d)
	}
	return l
}

// P20.

func TestPutForms(t *testing.T) {
	for _, c := range []struct {
		n    int
		want string
	}{
		{0, "0"},
		{1, "10 1000000"}, {-1, "10 0111110"}, {64, "10 1111111"}, {-63, "10 0000000"},
		{65, "110 101000000"}, {-64, "110 010111111"}, {256, "110 111111111"}, {-255, "110 000000000"},
		{257, "1110 100100000000"}, {-256, "1110 011011111111"}, {2048, "1110 111111111111"}, {-2047, "1110 000000000000"},
		{2049, "1111" + strings.Repeat("0", 52) + "100000000001"}, {-2048, "1111" + strings.Repeat("1", 53) + strings.Repeat("0", 11)},
		{math.MaxInt, "1111 0" + strings.Repeat("1", 63)}, {math.MinInt, "1111 1" + strings.Repeat("0", 63)},
	} {
		r := bits.New()
		if err := Put(r, c.n); err != nil || digits(t, r) != strings.ReplaceAll(c.want, " ", "") {
			t.Errorf("%d: %s, %v; not %s", c.n, digits(t, r), err, c.want)
		}
	}
}

func TestPutSizeAndGet(t *testing.T) {
	for _, n := range numbers() {
		r, want := bits.New(), wanted(n)
		if err := Put(r, n); err != nil || digits(t, r) != want || Size(n) != len(want) {
			t.Fatalf("%d: %s, %d, %v; not %s", n, digits(t, r), Size(n), err, want)
		}
		x := reader(t, r)
		if got, err := Get(x); got != n || err != nil || x.Left() != 0 {
			t.Fatalf("%d: %d, %v, %d left", n, got, err, x.Left())
		}
	}
}

func TestSizeExamples(t *testing.T) {
	for n, want := range map[int]int{0: 1, 64: 9, 65: 12} {
		if Size(n) != want {
			t.Error(n, Size(n), want)
		}
	}
}

func TestPutBehindOthers(t *testing.T) {
	r := row(t, "101")
	for _, n := range []int{5, 0, -300, 1 << 50} {
		if err := Put(r, n); err != nil {
			t.Fatal(err)
		}
	}
	if want := "101" + wanted(5) + "0" + wanted(-300) + wanted(1<<50); digits(t, r) != want {
		t.Error(digits(t, r), want)
	}
}

func TestPutAllOrNothing(t *testing.T) {
	for _, n := range []int{0, 1, -63, 64, 65, -255, 257, -2047, 2049, math.MinInt, math.MaxInt} {
		for room := range Size(n) {
			r := rowWithRoom(t, room)
			before := r.Bytes()
			if err := Put(r, n); err != api.ErrFull || r.Len() != api.MaxBits-room || r.Bytes() != before {
				t.Fatalf("%d into %d: %v, %d", n, room, err, r.Len())
			}
		}
		r := rowWithRoom(t, Size(n))
		if err := Put(r, n); err != nil || r.Len() != api.MaxBits {
			t.Fatalf("%d: %v, %d", n, err, r.Len())
		}
	}
}

func TestGetFromOthers(t *testing.T) {
	x := reader(t, row(t, wanted(7)+"0"+wanted(-2048)+"11"))
	for _, want := range []int{7, 0, -2048} {
		if n, err := Get(x); n != want || err != nil {
			t.Fatal(n, err, want)
		}
	}
	if x.Left() != 2 {
		t.Error(x.Left())
	}
	if n, err := Get(x); n != 0 || err != api.ErrNone {
		t.Error(n, err)
	}
}

func TestGetWhatPutWouldNotMake(t *testing.T) {
	forms := []struct {
		mark         string
		width, shift int
	}{{"10", 7, 63}, {"110", 9, 255}, {"1110", 12, 2047}, {"1111", 64, 0}}
	for _, f := range forms {
		for n := -2047; n <= 2048; n++ {
			if f.width < 64 && (n < -f.shift || n > f.shift+1) {
				continue
			}
			s := f.mark + padded(uint64(n+f.shift), f.width)
			got, err := Get(reader(t, row(t, s)))
			if s == wanted(n) && (got != n || err != nil) || s != wanted(n) && (got != 0 || err != api.ErrText) {
				t.Fatalf("%d as %s: %d, %v", n, s, got, err)
			}
		}
	}
}

func TestGetOfFewer(t *testing.T) {
	for _, n := range []int{0, 1, -1, 64, 65, -255, 300, -2047, 2049, -2048, math.MinInt, math.MaxInt} {
		s := wanted(n)
		for i := range s {
			if got, err := Get(reader(t, row(t, s[:i]))); got != 0 || err != api.ErrNone {
				t.Errorf("%d, the first %d bits: %d, %v", n, i, got, err)
			}
		}
	}
	for _, s := range []string{"", "1", "11", "111", "1111", "10 011111", "110 01111111", "1110 01111111111"} {
		if got, err := Get(reader(t, row(t, s))); got != 0 || err != api.ErrNone {
			t.Errorf("%s: %d, %v", s, got, err)
		}
	}
}

func TestNil(t *testing.T) {
	for _, n := range []int{0, 1, math.MinInt} {
		if err := Put(nil, n); err != api.ErrShape {
			t.Error(n, err)
		}
	}
	if n, err := Get(nil); n != 0 || err != api.ErrShape {
		t.Error(n, err)
	}
}

// P22.

func TestNoTwoForms(t *testing.T) {
	seen := map[int]string{}
	for i := range 1 << 17 {
		x := reader(t, row(t, padded(uint64(i), 17)))
		n, err := Get(x)
		if err != nil {
			continue
		}
		s := padded(uint64(i), 17)[:17-x.Left()]
		if before, ok := seen[n]; ok && before != s {
			t.Fatalf("%d: %s and %s", n, before, s)
		}
		seen[n] = s
	}
	if len(seen) != 4096 {
		t.Errorf("%d numbers have at most 17 bits", len(seen))
	}
}
