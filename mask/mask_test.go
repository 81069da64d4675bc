package mask

import (
	"math"
	"slices"
	"strconv"
	"strings"
	"testing"

	"tidegauge/api"
	"tidegauge/bits"
)

const (
	top  = 1 << 63
	full = math.MaxUint64
)

// row of digits, of which a blank is none.
func row(t *testing.T, digits string) *bits.Row {
	t.Helper()
	r := bits.New()
	for _, d := range strings.ReplaceAll(digits, " ", "") {
		if err := r.Put(uint64(d-'0'), 1); err != nil {
			t.Fatal(err)
		}
	}
	return r
}

// reader of a row's bits.
func reader(t *testing.T, r *bits.Row) *bits.Reader {
	t.Helper()
	x, err := bits.Open(r.Bytes(), r.Len())
	if err != nil {
		t.Fatal(err)
	}
	return x
}

// digits of a row.
func digits(t *testing.T, r *bits.Row) string {
	t.Helper()
	var b strings.Builder
	for x := reader(t, r); x.Left() > 0; {
		bit, err := x.Get(1)
		if err != nil {
			t.Fatal(err)
		}
		b.WriteByte('0' + byte(bit))
	}
	return b.String()
}

// rowWithRoom has so many bits left.
func rowWithRoom(t *testing.T, room int) *bits.Row {
	t.Helper()
	r := bits.New()
	for r.Len() < api.MaxBits-room {
		if err := r.Put(0, min(64, api.MaxBits-room-r.Len())); err != nil {
			t.Fatal(err)
		}
	}
	return r
}

// padded digits of a number in so many bits.
func padded(n uint64, width int) string {
	s := strconv.FormatUint(n, 2)
	return strings.Repeat("0", width-len(s)) + s
}

// wanted digits of values, by the document's words one by one.
func wanted(l []uint64) string {
	s := ""
	windowL, windowT, isWindow := 0, 0, false
	for i, v := range l {
		if i == 0 {
			s = padded(v, 64)
			continue
		}
		x := padded(v^l[i-1], 64)
		if !strings.Contains(x, "1") {
			s += "0"
			continue
		}
		lead := min(strings.Index(x, "1"), 31)
		tail := 63 - strings.LastIndex(x, "1")
		if isWindow && lead >= windowL && tail >= windowT {
			s += "10" + x[windowL:64-windowT]
			continue
		}
		s += "11" + padded(uint64(lead), 5) + padded(uint64(64-lead-tail)%64, 6) + x[lead:64-tail]
		windowL, windowT, isWindow = lead, tail, true
	}
	return s
}

// told is a window that is told, with the bits in it.
func told(lead, width uint64, inner string) string {
	return "11" + padded(lead, 5) + padded(width%64, 6) + inner
}

// wild values that follow a fixed rule: the same, changed in a few bits, or others.
func wild(count int, seed uint64) []uint64 {
	l := make([]uint64, count)
	value := uint64(0)
	for i := range l {
		seed = seed*6364136223846793005 + 1442695040888963407
		some := seed ^ seed>>31
		switch seed >> 61 {
		case 0, 1:
		case 2, 3:
			value ^= 1 << (some >> 7 % 64)
		case 4, 5:
			value ^= some >> 9 % 1024 << (some >> 3 % 64)
		case 6:
			value = math.Float64bits(float64(some % 1000))
		default:
			value = some
		}
		l[i] = value
	}
	return l
}

func repeated(value uint64, count int) []uint64 { return slices.Repeat([]uint64{value}, count) }

// lists with every kind of change in them.
func lists() [][]uint64 {
	l := [][]uint64{
		nil, {}, {0}, {full}, {7, 7, 7}, {1, 3}, {1, 3, 1}, {0, full, 0, full},
		{0, top, 0}, {0, top | 1, top, top | 1, 5}, {0, 1, 0, top, 0}, {0, 1, 1, 3, 3, 2, 7},
		{0, 0xf0 << 32, 0x30 << 32, 0xff << 32},
	}
	for seed := range uint64(60) {
		l = append(l, wild(int(seed*7)%(api.MaxPoints+1), seed))
	}
	return l
}

// P30.

func TestPutForms(t *testing.T) {
	for _, c := range []struct {
		l    []uint64
		want string
	}{
		{nil, ""}, {[]uint64{}, ""},
		{[]uint64{0}, padded(0, 64)}, {[]uint64{full}, strings.Repeat("1", 64)}, {[]uint64{5}, padded(5, 64)},
		{[]uint64{5, 5}, padded(5, 64) + "0"},
		// One window, of one bit, and used again.
		{[]uint64{0, top, 0}, padded(0, 64) + "11 00000 000001 1" + "10 1"},
		// All 64 bits between are told as 0.
		{[]uint64{0, top | 1, top}, padded(0, 64) + "11 00000 000000 1" + padded(1, 63) + "10" + padded(1, 64)},
		{[]uint64{full, 0}, strings.Repeat("1", 64) + "11 00000 000000" + strings.Repeat("1", 64)},
		// 63 bits are told as 63.
		{[]uint64{0, top | 2}, padded(0, 64) + "11 00000 111111 1" + padded(1, 62)},
		{[]uint64{0, top>>1 | 1}, padded(0, 64) + "11 00001 111111 1" + padded(1, 62)},
		// A head of 30, of 31, and of more, which counts as 31.
		{[]uint64{0, 1 << 33}, padded(0, 64) + "11 11110 000001 1"},
		{[]uint64{0, 1 << 32}, padded(0, 64) + "11 11111 000001 1"},
		{[]uint64{0, 1 << 31}, padded(0, 64) + "11 11111 000010 01"},
		{[]uint64{0, 1}, padded(0, 64) + "11 11111 100001" + padded(1, 33)},
		{[]uint64{1, 3}, padded(1, 64) + "11 11111 100000" + padded(1, 32)},
		// A window is left where a head or an end is less than its, and kept where both are no less.
		{[]uint64{0, 0b0110 << 40, 0b1110 << 40}, padded(0, 64) + "11 10101 000010 11" + "11 10100 000001 1"},
		{[]uint64{0, 0b0110 << 40, 0b0111 << 40}, padded(0, 64) + "11 10101 000010 11" + "11 10111 000001 1"},
		{[]uint64{0, 0b0110 << 40, 0b0100 << 40, 0}, padded(0, 64) + "11 10101 000010 11" + "10 01" + "10 10"},
		// A window stays behind values that are the same, and behind narrower changes.
		{[]uint64{0, 6, 6, 4, 4, 0}, padded(0, 64) + "11 11111 100000" + padded(3, 32) + "0" + "10" + padded(1, 32) + "0" + "10" + padded(2, 32)},
		{[]uint64{0, top, top | 1, top | 3}, padded(0, 64) + "11 00000 000001 1" + "11 11111 100001" + padded(1, 33) + "10" + padded(2, 33)},
	} {
		r := bits.New()
		want := strings.ReplaceAll(c.want, " ", "")
		if err := Put(r, c.l); err != nil || digits(t, r) != want || wanted(c.l) != want {
			t.Errorf("%v: %s, %v; not %s", c.l, digits(t, r), err, want)
		}
		if Size(c.l) != len(want) {
			t.Errorf("%v: %d, not %d", c.l, Size(c.l), len(want))
		}
	}
}

func TestEveryWindow(t *testing.T) {
	for from := range 64 {
		for to := from; to < 64; to++ {
			l := []uint64{9, 9 ^ 1<<from ^ 1<<to, 9, 9 ^ 1<<to, 9 ^ 1<<from, 9 ^ full}
			if from == to {
				l[1] = 9 ^ 1<<from
			}
			r, want := bits.New(), wanted(l)
			if err := Put(r, l); err != nil || digits(t, r) != want || Size(l) != len(want) {
				t.Fatalf("%d to %d: %s, %d, %v; not %s", from, to, digits(t, r), Size(l), err, want)
			}
			x := reader(t, r)
			if got, err := Read(x, len(l)); !slices.Equal(got, l) || err != nil || x.Left() != 0 {
				t.Fatalf("%d to %d: %v, %v, %d left", from, to, got, err, x.Left())
			}
		}
	}
}

// P31.

func TestPutSizeAndRead(t *testing.T) {
	for i, l := range lists() {
		kept := slices.Clone(l)
		r, want := row(t, "110"), wanted(kept)
		if err := Put(r, l); err != nil || digits(t, r) != "110"+want || !slices.Equal(l, kept) {
			t.Fatalf("%d: %v", i, err)
		}
		if Size(l) != len(want) || !slices.Equal(l, kept) {
			t.Fatalf("%d: %d, not %d", i, Size(l), len(want))
		}
		if err := r.Put(5, 3); err != nil {
			t.Fatal(err)
		}
		x := reader(t, r)
		if _, err := x.Get(3); err != nil {
			t.Fatal(err)
		}
		if got, err := Read(x, len(l)); !slices.Equal(got, l) || err != nil || x.Left() != 3 {
			t.Fatalf("%d: %v, %v, %d left", i, got, err, x.Left())
		}
	}
}

func TestPutAllOrNothing(t *testing.T) {
	for _, l := range [][]uint64{{0}, {1, 3}, {7, 7, 7}, {0, top | 1, top, 5}, {0, 0xf0 << 32, 0x30 << 32}} {
		size := len(wanted(l))
		for room := range size {
			r := rowWithRoom(t, room)
			before := r.Bytes()
			if err := Put(r, l); err != api.ErrFull || r.Len() != api.MaxBits-room || r.Bytes() != before {
				t.Fatalf("%v into %d: %v, %d", l, room, err, r.Len())
			}
		}
		r := rowWithRoom(t, size)
		if err := Put(r, l); err != nil || r.Len() != api.MaxBits {
			t.Fatalf("%v: %v, %d", l, err, r.Len())
		}
	}
	if err := Put(rowWithRoom(t, 0), nil); err != nil {
		t.Error(err)
	}
}

func TestPutOfALongList(t *testing.T) {
	r := bits.New()
	if err := Put(r, repeated(3, api.MaxBits-63)); err != nil || r.Len() != api.MaxBits {
		t.Error(err, r.Len())
	}
	r = bits.New()
	if err := Put(r, repeated(3, api.MaxBits-62)); err != api.ErrFull || r.Len() != 0 {
		t.Error(err, r.Len())
	}
	if size := Size(repeated(3, 3*api.MaxBits)); size != 3*api.MaxBits+63 {
		t.Error(size)
	}
}

func TestPutReadsNothingBehindTheList(t *testing.T) {
	all := []uint64{1, 3, 5, full}
	r := bits.New()
	if err := Put(r, all[:2]); err != nil || digits(t, r) != wanted([]uint64{1, 3}) || Size(all[:2]) != 109 {
		t.Error(err, digits(t, r), Size(all[:2]))
	}
	if !slices.Equal(all, []uint64{1, 3, 5, full}) {
		t.Error(all)
	}
}

func TestNil(t *testing.T) {
	for _, l := range [][]uint64{nil, {}, {1}, {1, 3}, repeated(0, api.MaxBits)} {
		if err := Put(nil, l); err != api.ErrShape {
			t.Error(len(l), err)
		}
	}
	for _, n := range []int{0, 1, api.MaxPoints} {
		if l, err := Read(nil, n); len(l) != 0 || err != api.ErrShape {
			t.Error(n, l, err)
		}
	}
}

func TestReadCount(t *testing.T) {
	zeros := row(t, strings.Repeat("0", 300))
	for _, n := range []int{-1, api.MaxPoints + 1, math.MinInt, math.MaxInt} {
		x := reader(t, zeros)
		if l, err := Read(x, n); len(l) != 0 || err != api.ErrBound || x.Left() != 300 {
			t.Error(n, l, err, x.Left())
		}
		if l, err := Read(nil, n); len(l) != 0 || err != api.ErrBound {
			t.Error(n, l, err)
		}
		if l, err := Read(reader(t, bits.New()), n); len(l) != 0 || err != api.ErrBound {
			t.Error(n, l, err)
		}
	}
	for _, n := range []int{1, 2, api.MaxPoints} {
		x := reader(t, zeros)
		if l, err := Read(x, n); !slices.Equal(l, make([]uint64, n)) || err != nil || x.Left() != 300-63-n {
			t.Error(n, l, err, x.Left())
		}
	}
	for _, r := range []*bits.Row{zeros, bits.New()} {
		x := reader(t, r)
		if l, err := Read(x, 0); len(l) != 0 || err != nil || x.Left() != r.Len() {
			t.Error(l, err, x.Left())
		}
	}
}

func TestReadOfFewer(t *testing.T) {
	for i, l := range lists() {
		s := wanted(l[:min(len(l), 12)])
		for n := range s {
			if got, err := Read(reader(t, row(t, s[:n])), min(len(l), 12)); len(got) != 0 || err != api.ErrNone {
				t.Fatalf("%d, the first %d bits: %v, %v", i, n, got, err)
			}
		}
		if len(l) < api.MaxPoints {
			if got, err := Read(reader(t, row(t, wanted(l))), len(l)+1); len(got) != 0 || err != api.ErrNone {
				t.Fatalf("%d, one more: %v, %v", i, got, err)
			}
		}
	}
}

func TestReadWhatPutWouldNotMake(t *testing.T) {
	for _, c := range []struct {
		digits string // behind a first value
		n      int
	}{
		// The window ahead, where there is none.
		{"10", 2}, {"10 1", 2}, {"10 1111", 5}, {"0 10 1", 3}, {"00 10" + padded(1, 64), 4},
		// A window wider than a value.
		{told(31, 34, padded(1, 34)), 2}, {told(31, 34, ""), 2}, {told(1, 64, ""), 2}, {told(2, 63, padded(1, 63)), 2}, {told(31, 64, strings.Repeat("1", 64)), 2},
		// No change in a window.
		{told(0, 1, "0"), 2}, {told(0, 64, padded(0, 64)), 2}, {told(31, 33, padded(0, 33)), 2},
		{told(5, 3, "101") + "10 000", 3}, {told(0, 64, "1"+padded(1, 63)) + "10" + padded(0, 64), 3},
		// A head that is more than told: not where 31 are told.
		{told(5, 3, "001"), 2}, {told(0, 3, "011"), 2}, {told(30, 2, "01"), 2}, {told(0, 64, padded(1, 64)), 2}, {told(30, 34, padded(1, 34)), 2},
		// An end that is more than told.
		{told(5, 3, "100"), 2}, {told(0, 3, "110"), 2}, {told(31, 33, padded(2, 33)), 2}, {told(0, 64, "1"+padded(0, 63)), 2},
		// A window anew, where the one ahead would have done.
		{told(5, 3, "101") + told(5, 3, "101"), 3}, {told(5, 3, "101") + told(6, 1, "1"), 3}, {told(5, 3, "101") + told(5, 1, "1"), 3}, {told(5, 3, "101") + told(7, 1, "1"), 3},
		{told(5, 3, "101") + "0" + told(5, 3, "111"), 4}, {told(5, 3, "101") + "10 100" + told(6, 2, "11"), 4},
		{told(0, 64, "1"+padded(1, 63)) + told(31, 33, padded(1, 33)), 3}, {told(31, 33, padded(1, 33)) + told(31, 2, "01"), 3},
	} {
		for _, first := range []uint64{0, 1, full} {
			x := reader(t, row(t, padded(first, 64)+c.digits))
			if l, err := Read(x, c.n); len(l) != 0 || err != api.ErrText {
				t.Errorf("%s, %d: %v, %v", c.digits, c.n, l, err)
			}
			// What is wrong is told, also if there are fewer for what comes behind it.
			x = reader(t, row(t, padded(first, 64)+c.digits))
			if l, err := Read(x, api.MaxPoints); len(l) != 0 || err != api.ErrText {
				t.Errorf("%s, all: %v, %v", c.digits, l, err)
			}
		}
	}
}

func TestReadBesideWhatPutWouldNotMake(t *testing.T) {
	for _, c := range []struct {
		digits string // behind a first value 0
		want   []uint64
	}{
		{told(31, 33, padded(1, 33)), []uint64{0, 1}},
		{told(30, 34, "1"+padded(1, 33)), []uint64{0, 1<<33 | 1}},
		{told(0, 64, "1"+padded(1, 63)), []uint64{0, top | 1}},
		{told(5, 3, "101") + "10 001", []uint64{0, 0b101 << 56, 0b100 << 56}},
		{told(5, 3, "101") + told(4, 1, "1"), []uint64{0, 0b101 << 56, 0b1101 << 56}},
		{told(5, 3, "101") + told(8, 1, "1"), []uint64{0, 0b101 << 56, 0b1011 << 55}},
	} {
		x := reader(t, row(t, padded(0, 64)+c.digits))
		if l, err := Read(x, len(c.want)); !slices.Equal(l, c.want) || err != nil || x.Left() != 0 {
			t.Errorf("%s: %v, %v, %d left", c.digits, l, err, x.Left())
		}
	}
}

// TestReadOnlyWhatPutMakes turns each bit of what was put: what is read still must be put so.
func TestReadOnlyWhatPutMakes(t *testing.T) {
	read := 0
	for i, l := range lists() {
		l = l[:min(len(l), 20)]
		s := []byte(wanted(l))
		for at := range s {
			s[at] ^= 1
			x := reader(t, row(t, string(s)))
			got, err := Read(x, len(l))
			switch {
			case err == nil:
				read++
				if wanted(got) != string(s[:len(s)-x.Left()]) {
					t.Fatalf("%d, bit %d: %v is put otherwise", i, at, got)
				}
			case len(got) != 0 || err != api.ErrText && err != api.ErrNone:
				t.Fatalf("%d, bit %d: %v, %v", i, at, got, err)
			}
			s[at] ^= 1
		}
	}
	if read == 0 {
		t.Error("nothing was read")
	}
}

// TestReadEveryShortForm goes through all that 18 bits behind a first value can be.
func TestReadEveryShortForm(t *testing.T) {
	seen := map[[3]uint64]string{}
	for i := range uint64(1 << 18) {
		r := bits.New()
		if e1, e2 := r.Put(5, 64), r.Put(i, 18); e1 != nil || e2 != nil {
			t.Fatal(e1, e2)
		}
		x := reader(t, r)
		l, err := Read(x, 3)
		if err != nil {
			if len(l) != 0 || err != api.ErrText && err != api.ErrNone {
				t.Fatalf("%b: %v, %v", i, l, err)
			}
			continue
		}
		s := (padded(5, 64) + padded(i, 18))[:82-x.Left()]
		if before, ok := seen[[3]uint64(l)]; ok && before != s || wanted(l) != s {
			t.Fatalf("%v: %s and %s", l, before, s)
		}
		seen[[3]uint64(l)] = s
	}
	if len(seen) < 100 {
		t.Error(len(seen))
	}
}

func TestReadInParts(t *testing.T) {
	x := reader(t, row(t, wanted([]uint64{5, 6, 6})+wanted([]uint64{full, 0})))
	a, e1 := Read(x, 3)
	b, e2 := Read(x, 2)
	if !slices.Equal(a, []uint64{5, 6, 6}) || e1 != nil || !slices.Equal(b, []uint64{full, 0}) || e2 != nil || x.Left() != 0 {
		t.Error(a, e1, b, e2, x.Left())
	}
}

func TestPutInParts(t *testing.T) {
	r := bits.New()
	a, b := []uint64{0, top, 0}, []uint64{0, top, 1}
	if e1, e2 := Put(r, a), Put(r, b); e1 != nil || e2 != nil || digits(t, r) != wanted(a)+wanted(b) {
		t.Error(e1, e2, digits(t, r))
	}
}

func TestReadGivesNewMemory(t *testing.T) {
	r := row(t, wanted([]uint64{1, 2, 3}))
	a, _ := Read(reader(t, r), 3)
	b, _ := Read(reader(t, r), 3)
	if !slices.Equal(a, []uint64{1, 2, 3}) || !slices.Equal(a, b) {
		t.Fatal(a, b)
	}
	a[0] = 9
	if b[0] != 1 {
		t.Error(b)
	}
}

// P32.

func TestTheSameNeedsOneBit(t *testing.T) {
	for i, l := range lists() {
		if len(l) == 0 {
			continue
		}
		last := l[len(l)-1]
		for more := range 5 {
			longer := append(slices.Clone(l), repeated(last, more)...)
			r := bits.New()
			if err := Put(r, longer); err != nil || r.Len() != Size(l)+more || Size(longer) != Size(l)+more {
				t.Fatalf("%d and %d more: %d, %d, %v", i, more, r.Len(), Size(longer), err)
			}
		}
	}
	for _, v := range []uint64{0, 1, top, full} {
		if size := Size(repeated(v, api.MaxPoints)); size != 64+api.MaxPoints-1 {
			t.Error(v, size)
		}
	}
}

func TestExamples(t *testing.T) {
	if Size([]uint64{1}) != 64 || Size([]uint64{1, 3}) != 64+45 {
		t.Error(Size([]uint64{1}), Size([]uint64{1, 3}))
	}
}
