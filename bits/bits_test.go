package bits

import (
	"math"
	"strings"
	"testing"

	"tidegauge/api"
)

// wrongCounts are those that are not from 0 to 64.
var wrongCounts = []int{math.MinInt, -65, -64, -1, 65, 128, api.MaxBits, math.MaxInt}

// piece is a value that is put, and how many bits of it.
type piece struct {
	value uint64
	n     int
}

// digits tells bits by an account of its own: one rune a bit.
func (p piece) digits() string {
	var b strings.Builder
	for i := p.n - 1; i >= 0; i-- {
		b.WriteByte('0' + byte(p.value>>i&1))
	}
	return b.String()
}

// packed lays digits into bytes, eight at a time, with 0 for what is missing.
func packed(digits string) string {
	var b strings.Builder
	for ; digits != ""; digits = digits[min(8, len(digits)):] {
		var one byte
		for i := range 8 {
			one <<= 1
			if i < len(digits) && digits[i] == '1' {
				one |= 1
			}
		}
		b.WriteByte(one)
	}
	return b.String()
}

// number of digits.
func number(digits string) uint64 {
	var v uint64
	for _, d := range digits {
		v = v<<1 | uint64(d-'0')
	}
	return v
}

// pieces of every width, with values that follow a fixed rule.
func pieces(count int, seed uint64) []piece {
	l := make([]piece, count)
	for i := range l {
		seed = seed*6364136223846793005 + 1442695040888963407
		l[i] = piece{seed ^ seed>>29, int(seed>>40) % 65}
	}
	return l
}

func mustPut(t *testing.T, r *Row, value uint64, n int) {
	t.Helper()
	if err := r.Put(value, n); err != nil {
		t.Fatalf("Put(%#x, %d): %v", value, n, err)
	}
}

func mustOpen(t *testing.T, b string, n int) *Reader {
	t.Helper()
	r, err := Open(b, n)
	if err != nil || r == nil {
		t.Fatalf("Open of %d bytes, %d: %v, %v", len(b), n, r, err)
	}
	return r
}

func mustGet(t *testing.T, r *Reader, n int, want uint64) {
	t.Helper()
	if v, err := r.Get(n); v != want || err != nil {
		t.Fatalf("Get(%d): %#x, %v; not %#x", n, v, err, want)
	}
}

// filled row of n bits 1.
func filled(t *testing.T, n int) *Row {
	t.Helper()
	r := New()
	for r.Len() < n {
		mustPut(t, r, math.MaxUint64, min(64, n-r.Len()))
	}
	return r
}

// P10.

func TestNewRowHasNone(t *testing.T) {
	if r := New(); r.Len() != 0 || r.Bytes() != "" {
		t.Error(r.Len(), r.Bytes())
	}
}

func TestPutHighestFirst(t *testing.T) {
	for _, c := range []struct {
		put  []piece
		n    int
		want string
	}{
		{[]piece{{1, 1}}, 1, "\x80"},
		{[]piece{{0, 1}, {1, 1}}, 2, "\x40"},
		{[]piece{{6, 3}}, 3, "\xc0"},
		{[]piece{{0xab, 8}}, 8, "\xab"},
		{[]piece{{0, 8}}, 8, "\x00"},
		{[]piece{{0x1ff, 9}}, 9, "\xff\x80"},
		{[]piece{{0, 9}}, 9, "\x00\x00"},
		{[]piece{{0xabc, 12}, {0xd, 4}}, 16, "\xab\xcd"},
		{[]piece{{1, 7}, {0x8001, 16}}, 23, "\x03\x00\x02"},
		{[]piece{{0x0123456789abcdef, 64}}, 64, "\x01\x23\x45\x67\x89\xab\xcd\xef"},
		{[]piece{{0xf, 4}, {0x0123456789abcdef, 64}}, 68, "\xf0\x12\x34\x56\x78\x9a\xbc\xde\xf0"},
		{[]piece{{1, 1}, {math.MaxUint64, 63}, {0, 64}}, 128, "\xff\xff\xff\xff\xff\xff\xff\xff\x00\x00\x00\x00\x00\x00\x00\x00"},
	} {
		r := New()
		for _, p := range c.put {
			mustPut(t, r, p.value, p.n)
		}
		if r.Len() != c.n || r.Bytes() != c.want {
			t.Errorf("%v: %d, %q; not %d, %q", c.put, r.Len(), r.Bytes(), c.n, c.want)
		}
	}
}

func TestPutTakesOnlyLastBits(t *testing.T) {
	for n := range 65 {
		r := New()
		mustPut(t, r, 0, 3)
		mustPut(t, r, math.MaxUint64, n)
		mustPut(t, r, 0, 5)
		if want := packed("000" + strings.Repeat("1", n) + "00000"); r.Len() != n+8 || r.Bytes() != want {
			t.Errorf("%d: %d, %q; not %q", n, r.Len(), r.Bytes(), want)
		}
	}
}

func TestPutNoBits(t *testing.T) {
	r := New()
	mustPut(t, r, math.MaxUint64, 0)
	if r.Len() != 0 || r.Bytes() != "" {
		t.Error(r.Len(), r.Bytes())
	}
	mustPut(t, r, 0x55, 8)
	mustPut(t, r, math.MaxUint64, 0)
	if r.Len() != 8 || r.Bytes() != "\x55" {
		t.Error(r.Len(), r.Bytes())
	}
}

func TestPutFromEveryPlaceInAByte(t *testing.T) {
	const value = 0xf0e1d2c3b4a59687
	for ahead := range 9 {
		for n := range 65 {
			r := New()
			first, second := piece{0x15a, ahead}, piece{value, n}
			mustPut(t, r, first.value, first.n)
			mustPut(t, r, second.value, second.n)
			if want := packed(first.digits() + second.digits()); r.Len() != ahead+n || r.Bytes() != want {
				t.Errorf("%d, %d: %d, %q; not %q", ahead, n, r.Len(), r.Bytes(), want)
			}
		}
	}
}

func TestPutWrongCount(t *testing.T) {
	r := New()
	mustPut(t, r, 5, 3)
	for _, n := range wrongCounts {
		if err := r.Put(math.MaxUint64, n); err != api.ErrBound || r.Len() != 3 || r.Bytes() != "\xa0" {
			t.Errorf("%d: %v, %d, %q", n, err, r.Len(), r.Bytes())
		}
	}
	mustPut(t, r, 31, 5)
	if r.Bytes() != "\xbf" {
		t.Errorf("%q", r.Bytes())
	}
}

func TestPutUpToMaxBits(t *testing.T) {
	for left := range 65 {
		r := filled(t, api.MaxBits-left)
		full := r.Bytes()
		for n := left + 1; n <= 64; n++ {
			if err := r.Put(math.MaxUint64, n); err != api.ErrFull || r.Len() != api.MaxBits-left {
				t.Fatalf("%d left, %d put: %v, %d", left, n, err, r.Len())
			}
		}
		if r.Bytes() != full {
			t.Fatalf("%d left: a put that failed was seen", left)
		}
		mustPut(t, r, math.MaxUint64, left)
		if r.Len() != api.MaxBits || r.Bytes() != strings.Repeat("\xff", api.MaxBits/8) {
			t.Fatalf("%d left: %d", left, r.Len())
		}
	}
}

func TestPutOnFullRow(t *testing.T) {
	r := filled(t, api.MaxBits)
	mustPut(t, r, 1, 0)
	if err := r.Put(0, 1); err != api.ErrFull {
		t.Error(err)
	}
	for _, n := range wrongCounts {
		if err := r.Put(0, n); err != api.ErrBound {
			t.Errorf("%d: %v: ErrBound is named first", n, err)
		}
	}
	if r.Len() != api.MaxBits {
		t.Error(r.Len())
	}
}

func TestRoom(t *testing.T) {
	r := New()
	for _, n := range []int{0, 1, 7, 8, 64} {
		mustPut(t, r, 0, n)
		if r.Room()+r.Len() != api.MaxBits {
			t.Error(n, r.Room(), r.Len())
		}
	}
	if err := r.Put(0, 65); err != api.ErrBound || r.Room() != api.MaxBits-80 {
		t.Error(err, r.Room())
	}
	if r := filled(t, api.MaxBits); r.Room() != 0 {
		t.Error(r.Room())
	}
}

func TestRowsAreApart(t *testing.T) {
	a, b := New(), New()
	mustPut(t, a, 3, 2)
	if a.Len() != 2 || b.Len() != 0 || b.Bytes() != "" {
		t.Error(a.Len(), b.Len(), b.Bytes())
	}
	mustPut(t, b, 0, 3)
	if a.Bytes() != "\xc0" || b.Bytes() != "\x00" {
		t.Errorf("%q %q", a.Bytes(), b.Bytes())
	}
}

func TestBytesStay(t *testing.T) {
	r := New()
	mustPut(t, r, 1, 1)
	before := r.Bytes()
	mustPut(t, r, 127, 7)
	if before != "\x80" || r.Bytes() != "\xff" {
		t.Errorf("%q %q", before, r.Bytes())
	}
}

// P11.

func TestGetHighestFirst(t *testing.T) {
	r := mustOpen(t, "\xab\xcd\x01\x23\x45\x67\x89\xab\xcd\xef\xf0", 85)
	for _, c := range []struct {
		n    int
		want uint64
		left int
	}{{0, 0, 85}, {1, 1, 84}, {3, 2, 81}, {12, 0xbcd, 69}, {0, 0, 69}, {64, 0x0123456789abcdef, 5}, {5, 30, 0}, {0, 0, 0}} {
		mustGet(t, r, c.n, c.want)
		if r.Left() != c.left {
			t.Errorf("%d: %d left, not %d", c.n, r.Left(), c.left)
		}
	}
}

func TestGetFromEveryPlaceInAByte(t *testing.T) {
	const b = "\xf0\xe1\xd2\xc3\xb4\xa5\x96\x87\x78\x69"
	digits := ""
	for i := range len(b) {
		digits += piece{uint64(b[i]), 8}.digits()
	}
	for ahead := range 9 {
		for n := range 65 {
			r := mustOpen(t, b, ahead+n)
			mustGet(t, r, ahead, number(digits[:ahead]))
			mustGet(t, r, n, number(digits[ahead:ahead+n]))
			if r.Left() != 0 {
				t.Errorf("%d, %d: %d left", ahead, n, r.Left())
			}
		}
	}
}

func TestOpenBounds(t *testing.T) {
	most := strings.Repeat("\xff", api.MaxBits/8)
	for _, c := range []struct {
		b  string
		n  int
		ok bool
	}{
		{"", 0, true}, {"", 1, false}, {"", -1, false}, {"", 8, false},
		{"\xff", 0, true}, {"\xff", 1, true}, {"\xff", 7, true}, {"\xff", 8, true}, {"\xff", 9, false}, {"\xff", 16, false}, {"\xff", -1, false},
		{"abc", 17, true}, {"abc", 24, true}, {"abc", 25, false}, {"abc", math.MaxInt, false}, {"abc", math.MinInt, false},
		{most, api.MaxBits, true}, {most, api.MaxBits + 1, false}, {most[1:], api.MaxBits, false}, {most[1:], api.MaxBits - 7, false}, {most[1:], api.MaxBits - 8, true},
		{most + "ab", 0, true}, {most + "ab", api.MaxBits, true}, {most + "ab", api.MaxBits + 1, false}, {most + "ab", api.MaxBits + 16, false}, {most + "ab", -1, false},
	} {
		r, err := Open(c.b, c.n)
		if c.ok && (err != nil || r == nil || r.Left() != c.n) {
			t.Errorf("%d bytes, %d: %v, %v", len(c.b), c.n, r, err)
		}
		if !c.ok && (err != api.ErrBound || r != nil) {
			t.Errorf("%d bytes, %d: %v, %v", len(c.b), c.n, r, err)
		}
	}
}

func TestGetWrongCount(t *testing.T) {
	r := mustOpen(t, strings.Repeat("\xa5", 20), 160)
	mustGet(t, r, 4, 10)
	for _, n := range wrongCounts {
		if v, err := r.Get(n); v != 0 || err != api.ErrBound || r.Left() != 156 {
			t.Errorf("%d: %#x, %v, %d left", n, v, err, r.Left())
		}
	}
	mustGet(t, r, 8, 0x5a)
}

func TestGetMoreThanLeft(t *testing.T) {
	for left := range 64 {
		r := mustOpen(t, strings.Repeat("\xff", 10), left+3)
		mustGet(t, r, 3, 7)
		for n := left + 1; n <= 64; n++ {
			if v, err := r.Get(n); v != 0 || err != api.ErrNone || r.Left() != left {
				t.Fatalf("%d left, %d got: %#x, %v, %d left", left, n, v, err, r.Left())
			}
		}
		mustGet(t, r, left, 1<<left-1)
		mustGet(t, r, 0, 0)
	}
}

func TestGetAtEnd(t *testing.T) {
	r := mustOpen(t, "\xff", 3)
	mustGet(t, r, 3, 7)
	for _, n := range []int{1, 5, 64} {
		if v, err := r.Get(n); v != 0 || err != api.ErrNone || r.Left() != 0 {
			t.Errorf("%d: %d, %v, %d left: bits behind the third are none", n, v, err, r.Left())
		}
	}
	for _, n := range wrongCounts {
		if _, err := r.Get(n); err != api.ErrBound {
			t.Errorf("%d: %v: ErrBound is named first", n, err)
		}
	}
}

func TestReadersAreApart(t *testing.T) {
	w := New()
	mustPut(t, w, 9, 4)
	a, b := mustOpen(t, w.Bytes(), 8), mustOpen(t, w.Bytes(), 8)
	mustGet(t, a, 4, 9)
	mustPut(t, w, 15, 4)
	if b.Left() != 8 {
		t.Error(b.Left())
	}
	mustGet(t, a, 4, 0)
	mustGet(t, b, 8, 0x90)
}

// P12.

func TestWhatWasPutIsGot(t *testing.T) {
	for seed := range uint64(40) {
		l := pieces(200, seed)
		w, digits := New(), ""
		for _, p := range l {
			mustPut(t, w, p.value, p.n)
			digits += p.digits()
		}
		if w.Len() != len(digits) || w.Bytes() != packed(digits) {
			t.Fatalf("seed %d: %d bits, not %d, or other bytes", seed, w.Len(), len(digits))
		}
		r := mustOpen(t, w.Bytes(), w.Len())
		left := w.Len()
		for _, p := range l {
			mustGet(t, r, p.n, number(p.digits()))
			left -= p.n
			if r.Left() != left {
				t.Fatalf("seed %d: %d left, not %d", seed, r.Left(), left)
			}
		}
	}
}

func TestWhatWasPutIsGotInOtherPieces(t *testing.T) {
	w, digits := New(), ""
	for _, p := range pieces(300, 99) {
		mustPut(t, w, p.value, p.n)
		digits += p.digits()
	}
	for step := 1; step <= 64; step++ {
		r := mustOpen(t, w.Bytes(), w.Len())
		for rest := digits; rest != ""; {
			n := min(step, len(rest))
			mustGet(t, r, n, number(rest[:n]))
			rest = rest[n:]
		}
	}
}

func TestWhatWasPutIsGotOfARowOfMaxBits(t *testing.T) {
	w := New()
	var l []piece
	for seed := uint64(7); w.Len() < api.MaxBits; seed++ {
		for _, p := range pieces(100, seed) {
			p.n = min(p.n, api.MaxBits-w.Len())
			mustPut(t, w, p.value, p.n)
			l = append(l, p)
		}
	}
	if len(w.Bytes()) != api.MaxBits/8 {
		t.Fatal(len(w.Bytes()))
	}
	r := mustOpen(t, w.Bytes(), api.MaxBits)
	for _, p := range l {
		mustGet(t, r, p.n, number(p.digits()))
	}
	if r.Left() != 0 {
		t.Error(r.Left())
	}
}
