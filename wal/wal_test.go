package wal

import (
	"encoding/binary"
	"errors"
	"fmt"
	"hash/crc32"
	"math"
	"reflect"
	"regexp"
	"slices"
	"strconv"
	"strings"
	"testing"

	"tidegauge/api"
	"tidegauge/label"
)

// framed is a body with its length ahead and its sum behind, by the library's account.
func framed(body string) string {
	s := append(binary.BigEndian.AppendUint16(nil, uint16(len(body))), body...)
	return string(binary.LittleEndian.AppendUint32(s, crc32.ChecksumIEEE([]byte(body))))
}

// wanted record of an entry.
func wanted(e Entry) string {
	return framed(fmt.Sprintf("%s@%d=%016x", e.Series, e.P.At, e.P.Bit))
}

// log of entries: their records, one behind the other.
func log(l []Entry) string {
	var s strings.Builder
	for _, e := range l {
		s.WriteString(wanted(e))
	}
	return s.String()
}

// model of Read: it takes a body apart by an expression, and asks for each part.
func model(b string) ([]Entry, int) {
	form := regexp.MustCompile(`^([^@]*)@(0|-?[1-9][0-9]*)=([0-9a-f]{16})$`)
	var l []Entry
	all := len(b)
	for len(b) >= 2 {
		n := int(binary.BigEndian.Uint16([]byte(b)))
		if len(b) < 2+n+4 || framed(b[2:2+n]) != b[:2+n+4] {
			break
		}
		m := form.FindStringSubmatch(b[2 : 2+n])
		if m == nil {
			break
		}
		_, bad := label.Read(m[1])
		at, err := strconv.ParseInt(m[2], 10, 64)
		if bad != nil || err != nil || at < -api.MaxTime || at > api.MaxTime {
			break
		}
		bit, err := strconv.ParseUint(m[3], 16, 64)
		if err != nil {
			break
		}
		l = append(l, Entry{Series: m[1], P: api.Point{At: int(at), Bit: bit}})
		b = b[2+n+4:]
	}
	return l, all - len(b)
}

// longest series that there is.
func longest() string {
	var l []api.Label
	for i := range api.MaxLabels {
		l = append(l, api.Label{Name: strings.Repeat(string(rune('a'+i)), api.MaxName), Value: strings.Repeat("9", api.MaxName)})
	}
	s, err := label.Text(l)
	if err != nil {
		panic(err)
	}
	return s
}

// entries of all kinds.
func entries() []Entry {
	return []Entry{
		{Series: "n=a", P: api.Point{At: -7, Bit: 255}},
		{Series: "n=a", P: api.Point{}},
		{Series: "m=x,n=a", P: api.Point{At: api.MaxTime, Bit: 1 << 63}},
		{Series: longest(), P: api.Point{At: -api.MaxTime, Bit: math.MaxUint64}},
		{Series: "a-=-", P: api.Point{At: 10, Bit: 0x0123456789abcdef}},
		{Series: "n=a", P: api.Point{At: -7, Bit: 255}},
	}
}

// disk with these bytes.
func disk(t *testing.T, b string) *Disk {
	t.Helper()
	d, err := NewDisk(b)
	if err != nil || d == nil {
		t.Fatal(d, err)
	}
	return d
}

// dark disk: these bytes, and no power.
func dark(t *testing.T, b string) *Disk {
	t.Helper()
	d := disk(t, b)
	if err := d.Cut(0); err != nil {
		t.Fatal(err)
	}
	if err := Append(d, "n=a", api.Point{}); err != api.ErrOff {
		t.Fatal(err)
	}
	return d
}

// put entries that must go.
func put(t *testing.T, d *Disk, l ...Entry) {
	t.Helper()
	for _, e := range l {
		if err := Append(d, e.Series, e.P); err != nil {
			t.Fatal(e, err)
		}
	}
}

// holds tells whether a disk has just these bytes, and power or not.
func holds(t *testing.T, d *Disk, bytes string, power bool) {
	t.Helper()
	if d.Bytes() != bytes || d.Power() != power {
		t.Errorf("%q %v, not %q %v", d.Bytes(), d.Power(), bytes, power)
	}
}

// P70.

func TestNewDisk(t *testing.T) {
	for _, b := range []string{"", "x", "\x00\xff", log(entries()), strings.Repeat("x", api.MaxBytes)} {
		holds(t, disk(t, b), b, true)
	}
	for _, n := range []int{api.MaxBytes + 1, 2 * api.MaxBytes} {
		if d, err := NewDisk(strings.Repeat("x", n)); d != nil || err != api.ErrBound {
			t.Error(n, d, err)
		}
	}
}

func TestDisksAreApart(t *testing.T) {
	a, b := disk(t, "x"), disk(t, "x")
	put(t, a, entries()[0])
	holds(t, b, "x", true)
	if err := a.Clear(); err != nil {
		t.Error(err)
	}
	holds(t, b, "x", true)
}

func TestCutErrors(t *testing.T) {
	d := disk(t, "x")
	for _, n := range []int{-1, math.MinInt} {
		if err := d.Cut(n); err != api.ErrBound {
			t.Error(n, err)
		}
	}
	put(t, d, entries()...) // no cut waits
	d = dark(t, "x")
	for n, want := range map[int]error{-1: api.ErrBound, math.MinInt: api.ErrBound, 0: api.ErrOff, 1: api.ErrOff, math.MaxInt: api.ErrOff} {
		if err := d.Cut(n); err != want {
			t.Error(n, err)
		}
	}
	holds(t, d, "x", false)
}

func TestWrongCutLeavesTheOneThatWaits(t *testing.T) {
	d := disk(t, "")
	if err := d.Cut(5); err != nil {
		t.Fatal(err)
	}
	if err := d.Cut(-1); err != api.ErrBound {
		t.Error(err)
	}
	e := entries()[0]
	if err := Append(d, e.Series, e.P); err != api.ErrOff {
		t.Error(err)
	}
	holds(t, d, wanted(e)[:5], false)
}

func TestCutIsAheadOfTheNextByte(t *testing.T) {
	e := entries()[0]
	r := wanted(e)
	for n := range len(r) + 3 {
		d := disk(t, "old")
		if err := d.Cut(n); err != nil {
			t.Fatal(err)
		}
		holds(t, d, "old", true)
		err := Append(d, e.Series, e.P)
		if whole := n >= len(r); whole != (err == nil) || !whole && err != api.ErrOff {
			t.Error(n, err)
		}
		holds(t, d, "old"+r[:min(n, len(r))], n >= len(r))
	}
}

func TestCutCountsOverRecords(t *testing.T) {
	l := entries()
	for n := range len(log(l)) {
		d := disk(t, "")
		if err := d.Cut(n); err != nil {
			t.Fatal(err)
		}
		for _, e := range l {
			if err := Append(d, e.Series, e.P); err != nil {
				break
			}
		}
		holds(t, d, log(l)[:n], false)
	}
}

func TestLaterCutCounts(t *testing.T) {
	e := entries()[0]
	r := wanted(e)
	for _, n := range [][2]int{{0, 9}, {9, 0}, {3, 4}, {math.MaxInt, 1}, {1, math.MaxInt}} {
		d := disk(t, "")
		if err := errors.Join(d.Cut(n[0]), d.Cut(n[1])); err != nil {
			t.Error(err)
		}
		err := Append(d, e.Series, e.P)
		if (err == nil) != (n[1] >= len(r)) {
			t.Error(n, err)
		}
		holds(t, d, r[:min(n[1], len(r))], n[1] >= len(r))
	}
}

func TestOn(t *testing.T) {
	d := disk(t, "")
	d.On()
	holds(t, d, "", true)
	if err := d.Cut(0); err != nil {
		t.Fatal(err)
	}
	d.On()
	put(t, d, entries()...)
	holds(t, d, log(entries()), true)

	d = dark(t, "x")
	d.On()
	holds(t, d, "x", true)
	put(t, d, entries()...) // the cut that came does not wait again
	holds(t, d, "x"+log(entries()), true)
	if err := d.Cut(0); err != nil {
		t.Error(err)
	}
}

func TestClear(t *testing.T) {
	d := disk(t, strings.Repeat("x", api.MaxBytes))
	if err := d.Clear(); err != nil {
		t.Error(err)
	}
	holds(t, d, "", true)
	put(t, d, entries()...)
	holds(t, d, log(entries()), true)
	if err := errors.Join(d.Clear(), d.Clear()); err != nil {
		t.Error(err)
	}
	holds(t, d, "", true)

	d = dark(t, "x")
	if err := d.Clear(); err != api.ErrOff {
		t.Error(err)
	}
	holds(t, d, "x", false)
	d.On()
	if err := d.Clear(); err != nil {
		t.Error(err)
	}
	holds(t, d, "", true)
}

func TestClearLeavesACutThatWaits(t *testing.T) {
	e := entries()[0]
	r := wanted(e)
	d := disk(t, "x")
	if err := d.Cut(len(r) + 4); err != nil {
		t.Fatal(err)
	}
	put(t, d, e)
	if err := d.Clear(); err != nil {
		t.Error(err)
	}
	if err := Append(d, e.Series, e.P); err != api.ErrOff {
		t.Error(err)
	}
	holds(t, d, r[:4], false)
}

func TestBytesStayAsTold(t *testing.T) {
	l := entries()
	d := disk(t, "")
	put(t, d, l[0])
	told := d.Bytes()
	if err := d.Clear(); err != nil {
		t.Error(err)
	}
	put(t, d, l[2], l[3])
	if told != wanted(l[0]) {
		t.Errorf("%q", told)
	}
}

// P71.

func TestRecord(t *testing.T) {
	d := disk(t, "")
	put(t, d, Entry{Series: "n=a", P: api.Point{At: -7, Bit: 255}})
	holds(t, d, "\x00\x17n=a@-7=00000000000000ff\x83\x6c\x2f\x0a", true)
	for _, e := range entries() {
		d := disk(t, "")
		put(t, d, e)
		holds(t, d, wanted(e), true)
		put(t, d, e)
		holds(t, d, wanted(e)+wanted(e), true)
	}
}

func TestAppendGoesBehindWhatIsThere(t *testing.T) {
	e := entries()[0]
	for _, b := range []string{"x", wanted(e)[:9], log(entries())} {
		d := disk(t, b)
		put(t, d, e)
		holds(t, d, b+wanted(e), true)
	}
}

func TestAppendErrors(t *testing.T) {
	far := api.Point{At: api.MaxTime + 1}
	low := api.Point{At: -api.MaxTime - 1}
	brim := func() *Disk { return disk(t, strings.Repeat("x", api.MaxBytes)) }
	for i, c := range []struct {
		d      *Disk
		series string
		p      api.Point
		want   error
	}{
		{disk(t, ""), "", api.Point{}, api.ErrText},
		{disk(t, ""), "n", api.Point{}, api.ErrText},
		{nil, "n", far, api.ErrText},
		{brim(), "n", far, api.ErrText},
		{dark(t, ""), "n=A", low, api.ErrName},
		{disk(t, ""), "n=a@1", api.Point{}, api.ErrName},
		{disk(t, ""), "n=a,m=x", api.Point{}, api.ErrShape},
		{disk(t, ""), longest() + ",z=z", api.Point{}, api.ErrBound},
		{disk(t, ""), "n=a", far, api.ErrBound},
		{disk(t, ""), "n=a", low, api.ErrBound},
		{disk(t, ""), "n=a", api.Point{At: math.MaxInt}, api.ErrBound},
		{disk(t, ""), "n=a", api.Point{At: math.MinInt}, api.ErrBound},
		{nil, "n=a", far, api.ErrBound},
		{brim(), "n=a", far, api.ErrBound},
		{dark(t, ""), "n=a", far, api.ErrBound},
		{nil, "n=a", api.Point{}, api.ErrShape},
		{brim(), "n=a", api.Point{}, api.ErrFull},
		{dark(t, strings.Repeat("x", api.MaxBytes-40)), longest(), api.Point{}, api.ErrFull},
		{dark(t, ""), "n=a", api.Point{}, api.ErrOff},
	} {
		var bytes string
		power := true
		if c.d != nil {
			bytes, power = c.d.Bytes(), c.d.Power()
		}
		err := Append(c.d, c.series, c.p)
		if !errors.Is(err, c.want) {
			t.Error(i, err)
		}
		if c.d != nil {
			holds(t, c.d, bytes, power)
		}
	}
}

func TestAppendTellsWhatReadTells(t *testing.T) {
	for _, s := range []string{"", "n", "n=", "=a", "n=A", "m=x,n=A", "n=a,m=x", "n=a,n=a", "n=a,", longest() + ",z=z", "n=a@"} {
		_, want := label.Read(s)
		if err := Append(disk(t, ""), s, api.Point{}); want == nil || !reflect.DeepEqual(err, want) {
			t.Errorf("%q %v %v", s, err, want)
		}
	}
	for _, err := range []error{Append(disk(t, ""), "n=a", api.Point{At: api.MaxTime + 1}), Append(nil, "n=a", api.Point{}), Append(disk(t, strings.Repeat("x", api.MaxBytes)), "n=a", api.Point{}), Append(dark(t, ""), "n=a", api.Point{})} {
		if fault := (*api.Fault)(nil); errors.As(err, &fault) {
			t.Error("a place:", fault.At, err)
		}
	}
}

func TestFull(t *testing.T) {
	for _, e := range entries() {
		r := wanted(e)
		just := strings.Repeat("x", api.MaxBytes-len(r))
		d := disk(t, just)
		put(t, d, e)
		holds(t, d, just+r, true)
		if err := Append(d, "n=a", api.Point{}); err != api.ErrFull {
			t.Error(err)
		}
		holds(t, d, just+r, true)

		d = disk(t, just+"x")
		if err := d.Cut(3); err != nil {
			t.Fatal(err)
		}
		if err := Append(d, e.Series, e.P); err != api.ErrFull {
			t.Error(err)
		}
		holds(t, d, just+"x", true)
		// The cut still waits for as many bytes: none was written.
		if err := d.Clear(); err != nil {
			t.Error(err)
		}
		if err := Append(d, e.Series, e.P); err != api.ErrOff {
			t.Error(err)
		}
		holds(t, d, r[:3], false)
	}
}

func TestAppendWithoutPowerWritesNothing(t *testing.T) {
	e := entries()[0]
	d := disk(t, "")
	if err := d.Cut(5); err != nil {
		t.Fatal(err)
	}
	for range 3 {
		if err := Append(d, e.Series, e.P); err != api.ErrOff {
			t.Error(err)
		}
		holds(t, d, wanted(e)[:5], false)
	}
}

// P72.

// notRecords: texts that are no record just as Append writes it.
func notRecords() []string {
	one := wanted(entries()[0])
	l := []string{"", "x", "\x00", "\x00\x00", "\x00\x00\x00\x00\x00\x00", "\xff\xff", strings.Repeat("\xff", 70000)}
	for n := range len(one) {
		l = append(l, one[:n])
	}
	for i := range len(one) * 8 {
		b := []byte(one)
		b[i/8] ^= 1 << (i % 8)
		l = append(l, string(b))
	}
	for _, body := range []string{
		"", "what", "@", "=", "@=", "n=a", "n=a@", "n=a@7", "n=a@7=", "n=a@=0000000000000001", "n=a@-=0000000000000001",
		"n=a@07=0000000000000001", "n=a@-07=0000000000000001", "n=a@+7=0000000000000001", "n=a@-0=0000000000000001", "n=a@00=0000000000000001",
		"n=a@ 7=0000000000000001", "n=a@7 =0000000000000001", "n=a@1_0=0000000000000001", "n=a@0x7=0000000000000001", "n=a@7.0=0000000000000001",
		"n=a@7=1", "n=a@7=000000000000001", "n=a@7=00000000000000001", "n=a@7=000000000000000F", "n=a@7=000000000000000g", "n=a@7=0x00000000000001",
		"n=a@7=+000000000000001", "n=a@7=-000000000000001", "n=a@7=0000000000000001 ", "n=a@7=0000000000000001=", "n=a@7=10000000000000000", "n=a@7==0000000000000001", "n=a@7@0000000000000001",
		"n@7=0000000000000001", "@7=0000000000000001", "n=A@7=0000000000000001", "n=a,m=x@7=0000000000000001", "n=a,@7=0000000000000001", "n=a@@7=0000000000000001", "n=a@1@7=0000000000000001",
		longest() + ",z=z@7=0000000000000001", "n=abcdefghijklm@7=0000000000000001",
		"n=a@1099511627777=0000000000000001", "n=a@-1099511627777=0000000000000001", "n=a@9223372036854775808=0000000000000001", "n=a@18446744073709551623=0000000000000001",
		strings.Repeat("n", 65535),
	} {
		l = append(l, framed(body))
	}
	body := "n=a@7=0000000000000001"
	right := framed(body)
	sum := right[len(right)-4:]
	turned := []byte(sum)
	slices.Reverse(turned)
	return append(l,
		right[:len(right)-4]+string(turned),          // the highest byte of the sum first
		string([]byte{right[1], right[0]})+right[2:], // the lowest byte of the length first
		right[:len(right)-4], right[2:], right[1:],
	)
}

func TestRead(t *testing.T) {
	all := entries()
	for n := range len(all) + 1 {
		l, size := Read(log(all[:n]))
		if !slices.Equal(l, all[:n]) || size != len(log(all[:n])) {
			t.Error(n, l, size)
		}
	}
}

func TestReadEndsWhereARecordIsNone(t *testing.T) {
	all := entries()
	for n := range 3 {
		good := log(all[:n])
		for _, s := range notRecords() {
			// A piece of one, with a record behind it, has other bytes for those that it lacks.
			for _, behind := range []string{"", wanted(all[2])} {
				l, size := Read(good + s + behind)
				if s == "" && behind != "" {
					continue
				}
				if !slices.Equal(l, all[:n]) || size != len(good) {
					t.Errorf("%d %q: %v %d", n, s, l, size)
				}
			}
		}
	}
}

func TestReadIsAsTheModel(t *testing.T) {
	good := log(entries())
	for n := range len(good) + 1 {
		l, size := Read(good[:n])
		want, many := model(good[:n])
		if !slices.Equal(l, want) || size != many {
			t.Error(n, l, size)
		}
	}
	for i := range len(good) * 8 {
		b := []byte(good)
		b[i/8] ^= 1 << (i % 8)
		l, size := Read(string(b))
		want, many := model(string(b))
		if !slices.Equal(l, want) || size != many || size > i/8 {
			t.Error(i, l, size)
		}
	}
}

// A log that no disk has room for is read as well: Read has no bound.
func TestReadOfALongText(t *testing.T) {
	one := wanted(entries()[0])
	l, size := Read(strings.Repeat(one, 5000) + "x")
	if len(l) != 5000 || size != 5000*len(one) {
		t.Error(len(l), size)
	}
}

func TestRecover(t *testing.T) {
	all := entries()
	for n := range len(all) + 1 {
		good := log(all[:n])
		for _, s := range append(notRecords(), "x"+wanted(all[0]), wanted(all[0])[:20]+wanted(all[1])) {
			if len(good)+len(s) > api.MaxBytes {
				continue
			}
			d := disk(t, good+s)
			l, err := Recover(d)
			if !slices.Equal(l, all[:n]) || err != nil {
				t.Errorf("%d %q: %v %v", n, s, l, err)
			}
			holds(t, d, good, true)
			// Nothing is left to go, and what is appended now is behind what was recovered.
			put(t, d, all[1])
			l, err = Recover(d)
			if !slices.Equal(l, append(append([]Entry(nil), all[:n]...), all[1])) || err != nil {
				t.Errorf("%d %q: %v %v", n, s, l, err)
			}
		}
	}
}

func TestRecoverWithoutADisk(t *testing.T) {
	if l, err := Recover(nil); len(l) != 0 || err != api.ErrShape {
		t.Error(l, err)
	}
}

func TestRecoverIsOn(t *testing.T) {
	all := entries()
	d := dark(t, log(all)+"x")
	if l, err := Recover(d); !slices.Equal(l, all) || err != nil {
		t.Error(l, err)
	}
	holds(t, d, log(all), true)
	if err := d.Cut(3); err != nil {
		t.Fatal(err)
	}
	if l, err := Recover(d); !slices.Equal(l, all) || err != nil {
		t.Error(l, err)
	}
	put(t, d, all[0]) // no cut waits any more
	holds(t, d, log(all)+wanted(all[0]), true)
}

func TestAnswersAreNewMemory(t *testing.T) {
	all := entries()
	d := disk(t, log(all))
	l, err := Recover(d)
	if err != nil {
		t.Fatal(err)
	}
	for i := range l {
		l[i] = Entry{}
	}
	holds(t, d, log(all), true)
	again, err := Recover(d)
	if !slices.Equal(again, all) || err != nil {
		t.Error(again, err)
	}
	put(t, d, all[3])
	if !slices.Equal(again, all) {
		t.Error(again)
	}
}

// P73.

// TestWhereverPowerIsCut: a log of some records, a cut at every byte of those behind it.
func TestWhereverPowerIsCut(t *testing.T) {
	all := entries()
	for had := range len(all) {
		for n := range len(log(all[had:])) + 1 {
			d := disk(t, log(all[:had]))
			if err := d.Cut(n); err != nil {
				t.Fatal(err)
			}
			done := append([]Entry(nil), all[:had]...)
			for _, e := range all[had:] {
				if Append(d, e.Series, e.P) == nil {
					done = append(done, e)
				}
			}
			l, err := Recover(d)
			if !slices.Equal(l, done) || err != nil {
				t.Error(had, n, l, err)
			}
			holds(t, d, log(done), true)
		}
	}
}

// walk over a disk by numbers, and hold what is recovered against what was appended.
func walk(t *testing.T, steps []byte) {
	t.Helper()
	d, all := disk(t, ""), entries()
	var done []Entry
	for i, x := range steps {
		e := all[int(x)%len(all)]
		e.P.At = i
		switch x % 8 {
		case 0:
			if err := d.Cut(int(x)); err != nil && (err != api.ErrOff || d.Power()) {
				t.Fatal(err)
			}
		case 1:
			l, err := Recover(d)
			if !slices.Equal(l, done) || err != nil {
				t.Fatal(i, l, done, err)
			}
			holds(t, d, log(done), true)
		case 2:
			if x < 64 && d.Clear() == nil {
				done = nil
			}
		default:
			switch err := Append(d, e.Series, e.P); {
			case err == nil:
				done = append(done, e)
			case err == api.ErrOff && d.Power(), err != api.ErrOff && err != api.ErrFull:
				t.Fatal(i, err, d.Power())
			}
		}
	}
	if l, err := Recover(d); !slices.Equal(l, done) || err != nil {
		t.Fatal(l, done, err)
	}
}

// made steps, by a fixed rule.
func made(n int, seed uint64) []byte {
	var l []byte
	for range n {
		seed = seed*6364136223846793005 + 1442695040888963407
		l = append(l, byte(seed>>40))
	}
	return l
}

func TestWalks(t *testing.T) {
	for seed := range uint64(300) {
		walk(t, made(int(seed)*2, seed))
	}
}

func FuzzWalk(f *testing.F) {
	for seed := range uint64(5) {
		f.Add(made(40, seed))
	}
	f.Fuzz(func(t *testing.T, steps []byte) { walk(t, steps) })
}

func FuzzRead(f *testing.F) {
	for _, e := range entries() {
		f.Add(wanted(e)+"x", e.Series, e.P.At, e.P.Bit)
	}
	f.Fuzz(func(t *testing.T, b, series string, at int, bit uint64) {
		// As it stands, and framed, so that the sum does not hide all else.
		for _, s := range []string{b, framed(b[:min(len(b), 65535)])} {
			l, n := Read(s)
			want, many := model(s)
			if !slices.Equal(l, want) || n != many {
				t.Fatalf("%q: %v %d, not %v %d", s, l, n, want, many)
			}
		}
		e := Entry{Series: series, P: api.Point{At: at, Bit: bit}}
		d := disk(t, "")
		if Append(d, series, e.P) != nil {
			holds(t, d, "", true)
			return
		}
		if l, n := Read(d.Bytes()); len(l) != 1 || l[0] != e || n != len(d.Bytes()) || d.Bytes() != wanted(e) {
			t.Fatal(e, l, n)
		}
	})
}
