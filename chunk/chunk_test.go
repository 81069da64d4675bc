package chunk

import (
	"encoding/binary"
	"errors"
	"hash/crc32"
	"math"
	"slices"
	"strings"
	"testing"

	"tidegauge/api"
	"tidegauge/bits"
	"tidegauge/mask"
	"tidegauge/wave"
)

// body of digits, of which a blank is none, filled by 0.
func body(t *testing.T, digits string) string {
	t.Helper()
	r := bits.New()
	for _, d := range strings.ReplaceAll(digits, " ", "") {
		if err := r.Put(uint64(d-'0'), 1); err != nil {
			t.Fatal(err)
		}
	}
	return r.Bytes()
}

// seal puts the sum behind, by the library's account.
func seal(s string) string {
	return string(binary.BigEndian.AppendUint32([]byte(s), crc32.ChecksumIEEE([]byte(s))))
}

// wanted text of points, part by part. It does not ask whether they are a chunk.
func wanted(t *testing.T, count int, ticks []int, values []uint64) string {
	t.Helper()
	r := bits.New()
	for _, err := range []error{r.Put(uint64(count), 8), wave.Ticks(r, ticks), mask.Put(r, values)} {
		if err != nil {
			t.Fatal(err)
		}
	}
	return seal(r.Bytes())
}

// parts of points.
func parts(l []api.Point) (ticks []int, values []uint64) {
	for _, p := range l {
		ticks, values = append(ticks, p.At), append(values, p.Bit)
	}
	return ticks, values
}

// made points, by a fixed rule: steps and changes of every size.
func made(n int, seed uint64) []api.Point {
	var l []api.Point
	p := api.Point{At: int(seed%7) * -1000}
	for range n {
		seed = seed*6364136223846793005 + 1442695040888963407
		p.At += 1 + int(seed>>(32+seed>>59)%3000)
		if seed>>40%3 != 0 {
			p.Bit ^= seed >> (seed >> 58) << (seed >> 50 % 64)
		}
		l = append(l, p)
	}
	return l
}

// even points, whose ticks rise by a step.
func even(n, first, step int) []api.Point {
	var l []api.Point
	for i := range n {
		l = append(l, api.Point{At: first + i*step, Bit: math.Float64bits(float64(i % 5))})
	}
	return l
}

// at these ticks are points, each with its place as value.
func at(ticks ...int) []api.Point {
	var l []api.Point
	for i, n := range ticks {
		l = append(l, api.Point{At: n, Bit: uint64(i)})
	}
	return l
}

// chunks of all kinds.
func chunks() [][]api.Point {
	all := [][]api.Point{
		nil, {}, at(0), at(api.MaxTime), at(-api.MaxTime), {{At: 5, Bit: math.MaxUint64}},
		at(-api.MaxTime, api.MaxTime), at(-api.MaxTime, 0, api.MaxTime), at(-api.MaxTime, -api.MaxTime+1, api.MaxTime-1, api.MaxTime),
		even(api.MaxPoints, 0, 1), even(api.MaxPoints, -api.MaxTime, 1<<33), even(7, 1, 64), even(2, -1, 1),
	}
	for n := range api.MaxPoints + 1 {
		all = append(all, made(n, uint64(n)))
	}
	return all
}

// wrongs are lists that are no chunk: the place of the first fault, or -1.
var wrongs = []struct {
	l    []api.Point
	at   int
	want error
}{
	{even(api.MaxPoints+1, 0, 1), -1, api.ErrBound},
	{make([]api.Point, api.MaxPoints+1), -1, api.ErrBound},
	{even(256, 0, 1), -1, api.ErrBound},
	{even(257, math.MaxInt-5, 1), -1, api.ErrBound},
	{at(api.MaxTime + 1), 0, api.ErrBound},
	{at(-api.MaxTime - 1), 0, api.ErrBound},
	{at(math.MaxInt), 0, api.ErrBound},
	{at(math.MinInt), 0, api.ErrBound},
	{at(0, api.MaxTime+1), 1, api.ErrBound},
	{at(0, 1, 2, math.MaxInt, 3), 3, api.ErrBound},
	{at(1, 1), 1, api.ErrOld},
	{at(0, 0), 1, api.ErrOld},
	{at(2, 1), 1, api.ErrOld},
	{at(1, 3, 5, 4, 2), 3, api.ErrOld},
	{at(1, 3, 5, 4, math.MaxInt), 3, api.ErrOld},
	{at(api.MaxTime, api.MaxTime), 1, api.ErrOld},
	{at(api.MaxTime, -api.MaxTime), 1, api.ErrOld},
	{make([]api.Point, api.MaxPoints), 1, api.ErrOld},
	// Out of bounds, and old: ErrBound is named first.
	{at(0, -api.MaxTime-1), 1, api.ErrBound},
	{at(0, math.MinInt), 1, api.ErrBound},
	{at(math.MaxInt, math.MaxInt), 0, api.ErrBound},
	{append(even(api.MaxPoints-1, 0, 1), at(117)...), api.MaxPoints - 1, api.ErrOld},
}

// isWrong tells whether an error is the one wanted: bare, or with its place.
func isWrong(err error, at int, want error) bool {
	if at < 0 {
		return err == want
	}
	f, ok := err.(*api.Fault)
	return ok && f.At == at && f.Err == want && errors.Is(err, want)
}

// P40.

func TestCheck(t *testing.T) {
	for i, l := range chunks() {
		if err := Check(l); err != nil {
			t.Error(i, err)
		}
	}
	for i, c := range wrongs {
		if err := Check(c.l); !isWrong(err, c.at, c.want) {
			t.Errorf("%d: %#v; not %d, %v", i, err, c.at, c.want)
		}
	}
}

func TestEncodeWrong(t *testing.T) {
	for i, c := range wrongs {
		if s, err := Encode(c.l); s != "" || !isWrong(err, c.at, c.want) {
			t.Errorf("%d: %q, %#v; not %d, %v", i, s, err, c.at, c.want)
		}
	}
}

func TestEncodeToTheBit(t *testing.T) {
	zeros := strings.Repeat("0", 62)
	for _, c := range []struct {
		l      []api.Point
		digits string
	}{
		{nil, "00000000"},
		{[]api.Point{{}}, "00000001 0 00" + zeros},
		{[]api.Point{{At: 10, Bit: 1}}, "00000001 10 1001001 0" + zeros + "1"},
		{[]api.Point{{At: 10, Bit: 1}, {At: 20, Bit: 3}, {At: 30, Bit: 3}}, "00000011 10 1001001 10 1001001 0 0" + zeros + "1 11 11111 100000 " + zeros[:31] + "1 0"},
	} {
		if s, err := Encode(c.l); s != seal(body(t, c.digits)) || err != nil {
			t.Errorf("%v: %x, %v; not %x", c.l, s, err, seal(body(t, c.digits)))
		}
	}
	if s, err := Encode(nil); s != "\x00\xd2\x02\xef\x8d" || err != nil {
		t.Errorf("%x, %v", s, err)
	}
}

func TestEncodeByParts(t *testing.T) {
	for i, l := range chunks() {
		ticks, values := parts(l)
		if s, err := Encode(l); s != wanted(t, len(l), ticks, values) || err != nil {
			t.Errorf("%d: %x, %v", i, s, err)
		}
	}
}

func TestSum(t *testing.T) {
	for s, want := range map[string]uint32{"": 0, "\x00": 0xd202ef8d, "123456789": 0xcbf43926, "\xff\xff\xff\xff": 0xffffffff} {
		if Sum(s) != want {
			t.Errorf("%q: %x; not %x", s, Sum(s), want)
		}
	}
	b := ""
	for i := range 600 {
		if Sum(b) != crc32.ChecksumIEEE([]byte(b)) {
			t.Fatalf("%d bytes: %x", len(b), Sum(b))
		}
		b += string([]byte{byte(i * i >> 2)})
	}
}

// P41.

func TestDecode(t *testing.T) {
	for i, l := range chunks() {
		ticks, values := parts(l)
		if got, err := Decode(wanted(t, len(l), ticks, values)); !slices.Equal(got, l) || err != nil {
			t.Errorf("%d: %v, %v; not %v", i, got, err, l)
		}
	}
}

// refused by Decode, with this error, bare.
func refused(t *testing.T, s string, want error) {
	t.Helper()
	if l, err := Decode(s); len(l) != 0 || err != want {
		t.Errorf("%d bytes, %.40x: %v, %v; not %v", len(s), s, l, err, want)
	}
}

func TestDecodeFewBytes(t *testing.T) {
	for _, s := range []string{"", "\x00", "abcd", "\x00\xd2\x02\xef", seal(""), "\xff\xff\xff\xff"} {
		refused(t, s, api.ErrText)
	}
	refused(t, "abcde", api.ErrSum)
	refused(t, "\x00\x00\x00\x00\x00", api.ErrSum)
}

func TestDecodeWrongSum(t *testing.T) {
	for _, n := range []int{0, 1, 2, 30} {
		s, err := Encode(made(n, 5))
		if err != nil {
			t.Fatal(err)
		}
		for i := range 8 * len(s) {
			b := []byte(s)
			b[i/8] ^= 1 << (i % 8)
			refused(t, string(b), api.ErrSum)
		}
		for i := 5; i < len(s); i++ {
			refused(t, s[:i], api.ErrSum)
		}
		refused(t, s+"\x00", api.ErrSum)
		refused(t, "\x00"+s, api.ErrSum)
		turned := []byte(s)
		slices.Reverse(turned[len(s)-4:])
		refused(t, string(turned), api.ErrSum)
	}
	// No chunk either way: ErrSum is named first.
	refused(t, "\xff\x00\x00\x00\x00", api.ErrSum)
	refused(t, strings.Repeat("\xff", api.MaxBits), api.ErrSum)
}

func TestDecodeWrongCount(t *testing.T) {
	zeros := strings.Repeat("\x00", 1000)
	for n := range 256 {
		refused(t, seal(string([]byte{byte(n)})+zeros), api.ErrText)
		if n > 0 {
			refused(t, seal(string([]byte{byte(n)})), api.ErrText)
		}
	}
	ticks, values := parts(made(30, 3))
	for _, n := range []int{0, 1, 29, 31, 120, 121, 255} {
		refused(t, wanted(t, n, ticks, values), api.ErrText)
	}
	ticks, values = parts(even(121, 0, 1))
	refused(t, wanted(t, 121, ticks, values), api.ErrText)
	ticks, values = parts(even(255, 0, 1))
	refused(t, wanted(t, 255, ticks, values), api.ErrText)
}

func TestDecodeOfFewerAndMore(t *testing.T) {
	for _, n := range []int{0, 1, 2, 3, 17} {
		s, err := Encode(made(n, 8))
		if err != nil {
			t.Fatal(err)
		}
		b := s[:len(s)-4]
		for i := 1; i < len(b); i++ {
			refused(t, seal(b[:i]), api.ErrText)
		}
		for _, more := range []string{"\x00", "\x80", "\x01", strings.Repeat("\x00", 100), s, s[len(s)-4:]} {
			refused(t, seal(b+more), api.ErrText)
		}
	}
	for _, n := range []int{api.MaxBits/8 - 1, api.MaxBits / 8, api.MaxBits/8 + 1, api.MaxBits} {
		refused(t, seal(strings.Repeat("\x00", n)), api.ErrText)
	}
}

func TestDecodeWrongFill(t *testing.T) {
	const one = "00000001 0 0000000000000000000000000000000000000000000000000000000000000000"
	for i := range 8 {
		digits := one + strings.Repeat("0", i) + "1"
		refused(t, seal(body(t, digits)), api.ErrText)
	}
	if l, err := Decode(seal(body(t, one))); !slices.Equal(l, []api.Point{{}}) || err != nil {
		t.Error(l, err)
	}
}

func TestDecodeWrongTicks(t *testing.T) {
	for _, ticks := range [][]int{{0, 0}, {1, 1}, {2, 1}, {1, 2, 2}, {1, 2, 3, -api.MaxTime}, {api.MaxTime, -api.MaxTime}} {
		refused(t, wanted(t, len(ticks), ticks, make([]uint64, len(ticks))), api.ErrText)
	}
	for _, changes := range [][]int{{api.MaxTime + 1}, {-api.MaxTime - 1}, {math.MaxInt}, {math.MinInt}, {api.MaxTime, 1}, {1, math.MaxInt}} {
		r := bits.New()
		if err := r.Put(uint64(len(changes)), 8); err != nil {
			t.Fatal(err)
		}
		for _, n := range changes {
			if err := wave.Put(r, n); err != nil {
				t.Fatal(err)
			}
		}
		if err := mask.Put(r, make([]uint64, len(changes))); err != nil {
			t.Fatal(err)
		}
		refused(t, seal(r.Bytes()), api.ErrText)
	}
}

func TestDecodeOtherForms(t *testing.T) {
	zeros := strings.Repeat("0", 62)
	for _, digits := range []string{
		// A tick of 0, and one of 10, in too many bits.
		"00000001 10 0111111 00" + zeros,
		"00000001 110 100001001 00" + zeros,
		// A value that does not change, told by a window; a change of the last bit, told by two.
		"00000010 0 10 1000000 00" + zeros + "11 11111 100001 0" + zeros[:32],
		"00000010 0 10 1000000 00" + zeros + "11 11110 100010 " + zeros[:33] + "1",
		"00000010 0 10 1000000 00" + zeros + "10 0",
	} {
		refused(t, seal(body(t, digits)), api.ErrText)
	}
}

// P42.

func TestBetween(t *testing.T) {
	l := at(-5, 0, 10, 20, 30)
	for _, c := range []struct {
		from, to int
		want     []api.Point
	}{
		{0, 20, l[1:4]}, {-5, 30, l}, {math.MinInt, math.MaxInt, l}, {1, 19, l[2:3]}, {10, 10, l[2:3]},
		{11, 19, nil}, {31, math.MaxInt, nil}, {math.MinInt, -6, nil}, {20, 10, nil}, {math.MaxInt, math.MinInt, nil},
		{30, math.MaxInt, l[4:]}, {math.MinInt, -5, l[:1]},
	} {
		if got := Between(l, c.from, c.to); !slices.Equal(got, c.want) {
			t.Error(c.from, c.to, got)
		}
	}
	if got := Between(nil, math.MinInt, math.MaxInt); len(got) != 0 {
		t.Error(got)
	}
	// Of what is no chunk: all that are so, as they stand.
	if got := Between(at(7, 3, math.MaxInt, 3, 9, 5), 3, 7); !slices.Equal(got, []api.Point{{At: 7}, {At: 3, Bit: 1}, {At: 3, Bit: 3}, {At: 5, Bit: 5}}) {
		t.Error(got)
	}
	if got := Between(at(math.MinInt, math.MaxInt), math.MinInt, math.MaxInt); len(got) != 2 {
		t.Error(got)
	}
}

// letters of points: a tick and a letter each, the letter as value. A tick of one digit, as text.
func letters(s string) []api.Point {
	var l []api.Point
	for _, f := range strings.Fields(s) {
		l = append(l, api.Point{At: int(f[0] - '0'), Bit: uint64(f[1])})
	}
	return l
}

func TestMerge(t *testing.T) {
	for _, c := range []struct{ a, b, want string }{
		{"", "", ""},
		{"1a 2a", "", "1a 2a"},
		{"", "1b 2b", "1b 2b"},
		{"1a 3a", "2b 4b", "1a 2b 3a 4b"},
		{"1a 2a", "3b 4b", "1a 2a 3b 4b"},
		{"3a 4a", "1b 2b", "1b 2b 3a 4a"},
		{"1a 2a 3a", "1b 2b 3b", "1b 2b 3b"},
		{"1a 2a 3a", "2b", "1a 2b 3a"},
		{"2a", "1b 2b 3b", "1b 2b 3b"},
		// Of what is no chunk.
		{"5a 1a", "2b", "2b 5a 1a"},
		{"2a", "5b 1b", "2a 5b 1b"},
		{"1a 1a", "1b", "1b"},
		{"1a", "1b 1b", "1b 1b"},
		{"1a 0a", "1b", "0a 1b"},
		{"1a 2a", "1b 0b", "1b 0b 2a"},
		{"2a 2a", "", "2a 2a"},
		{"2a 2a", "3b", "2a 2a 3b"},
	} {
		if got := Merge(letters(c.a), letters(c.b)); !slices.Equal(got, letters(c.want)) {
			t.Errorf("%s, %s: %v; not %s", c.a, c.b, got, c.want)
		}
	}
	if got := Merge(at(math.MinInt, math.MaxInt), at(0)); !slices.Equal(got, []api.Point{{At: math.MinInt}, {}, {At: math.MaxInt, Bit: 1}}) {
		t.Error(got)
	}
}

func TestMergeOfChunks(t *testing.T) {
	for seed := range uint64(50) {
		a, b := even(100, int(seed), 3), even(120, int(seed%7)*10, 2)
		byTick := map[int]uint64{}
		for _, l := range [][]api.Point{a, b} {
			for _, p := range l {
				byTick[p.At] = p.Bit
			}
		}
		got := Merge(a, b)
		if len(got) != len(byTick) {
			t.Fatal(seed, len(got), len(byTick))
		}
		for i, p := range got {
			if v, ok := byTick[p.At]; !ok || v != p.Bit || i > 0 && p.At <= got[i-1].At {
				t.Fatal(seed, i, p, v)
			}
		}
	}
}

// P43.

func TestWhatIsEncodedIsDecoded(t *testing.T) {
	for i, l := range chunks() {
		s, err := Encode(l)
		if err != nil {
			t.Fatal(i, err)
		}
		if got, err := Decode(s); !slices.Equal(got, l) || err != nil {
			t.Errorf("%d: %v, %v; not %v", i, got, err, l)
		}
	}
}

// decodedOnlyIfEncoded: a text is refused, or it is just what its points are encoded to.
func decodedOnlyIfEncoded(t *testing.T, s string) bool {
	t.Helper()
	l, err := Decode(s)
	if err != nil {
		if len(l) != 0 || err != api.ErrText {
			t.Fatalf("%x: %v, %v", s, l, err)
		}
		return false
	}
	if again, err := Encode(l); again != s || err != nil {
		t.Fatalf("%x: %v, %x, %v", s, l, again, err)
	}
	return true
}

func TestNoOtherBytesAreDecoded(t *testing.T) {
	some := 0
	for _, n := range []int{1, 2, 3, 5, 20} {
		for seed := range uint64(12) {
			s, err := Encode(made(n, seed))
			if err != nil {
				t.Fatal(err)
			}
			for i := range 8 * (len(s) - 4) {
				b := []byte(s[:len(s)-4])
				b[i/8] ^= 1 << (i % 8)
				if decodedOnlyIfEncoded(t, seal(string(b))) {
					some++
				}
			}
		}
	}
	if some == 0 {
		t.Error("no other body was a chunk's")
	}
	for i := range 1 << 16 {
		if b := string([]byte{byte(i >> 8), byte(i)}); decodedOnlyIfEncoded(t, seal(b)) {
			t.Errorf("%x", b)
		}
	}
}

func FuzzDecode(f *testing.F) {
	for _, n := range []int{0, 1, 2, 9} {
		s, _ := Encode(made(n, 1))
		f.Add(s[:len(s)-4])
	}
	f.Fuzz(func(t *testing.T, b string) { decodedOnlyIfEncoded(t, seal("\x00"[:max(0, 1-len(b))]+b)) })
}

// P3 and P4.

func TestOnlyRead(t *testing.T) {
	l := slices.Grow(made(20, 4), 5)
	behind := append(l, api.Point{At: math.MinInt, Bit: 77})
	before := slices.Clone(behind)
	if err := Check(l); err != nil {
		t.Error(err)
	}
	if _, err := Encode(l); err != nil {
		t.Error(err)
	}
	Between(l[:3], math.MinInt, math.MaxInt)
	Merge(l[:3], l[5:7])
	Merge(nil, l)
	Merge(l, nil)
	if !slices.Equal(behind, before) {
		t.Error(behind)
	}
}

func TestNewMemory(t *testing.T) {
	l := made(6, 4)
	s, err := Encode(l)
	if err != nil {
		t.Fatal(err)
	}
	before := slices.Clone(l)
	decoded, _ := Decode(s)
	for i, got := range [][]api.Point{Between(l, math.MinInt, math.MaxInt), Merge(l, nil), Merge(nil, l), Merge(l[:3], l[3:]), Merge(l, l), decoded} {
		if !slices.Equal(got, before) {
			t.Fatal(i, got)
		}
		for k := range got {
			got[k] = api.Point{}
		}
		_ = append(got, api.Point{At: 1})
		if !slices.Equal(l, before) {
			t.Fatal(i, l)
		}
	}
	if again, err := Decode(s); !slices.Equal(again, before) || err != nil {
		t.Error(again, err)
	}
}
