package block

import (
	"encoding/hex"
	"fmt"
	"hash/crc32"
	"math"
	"reflect"
	"regexp"
	"strconv"
	"strings"
	"testing"

	"tidegauge/api"
)

// P82.

// wantedText of a block, by the library's account.
func wantedText(b Block) string {
	s := fmt.Sprintf("block %d %d %d\n", b.From, b.Span, len(b.Series))
	for i, x := range b.Series {
		s += fmt.Sprintf("%s %x\n", x, b.Chunks[i])
	}
	return s
}

func TestText(t *testing.T) {
	for i, b := range wells(t) {
		if s, err := Text(b); s != wantedText(b) || err != nil {
			t.Errorf("%d: %q, %v", i, s, err)
		}
	}
	// By hand: a count in 8 bits, a tick in 9, a value in 64.
	summed := func(b string) string {
		x, err := hex.DecodeString(b)
		if err != nil {
			t.Fatal(err)
		}
		return fmt.Sprintf("%s%08x", b, crc32.ChecksumIEEE(x))
	}
	want := "block -10 20 2\nm=x,n=a " + summed("019afffffffffffffff180") + "\nn=c " + summed("01a2000000000000000800") + "\n"
	if s, err := Text(made(t, -10, 20, of("m=x,n=a", -10), of("n=c", 5))); s != want || err != nil {
		t.Errorf("%q, %v", s, err)
	}
}

func TestTextTellsChecksErrors(t *testing.T) {
	for i, h := range harms(t) {
		b := whole(t)
		h.how(&b)
		if s, err := Text(b); s != "" || !isWrong(err, h.at, h.want) {
			t.Errorf("%d: %q, %#v; not %d, %v", i, s, err, h.at, h.want)
		}
	}
}

func TestRead(t *testing.T) {
	for i, b := range wells(t) {
		s := wantedText(b)
		if len(s) > api.MaxText {
			t.Fatal(i, len(s))
		}
		if x, err := Read(s); !same(x, b) || err != nil {
			t.Errorf("%d: %v, %v", i, x, err)
		}
	}
}

func TestReadBounds(t *testing.T) {
	for _, s := range []string{strings.Repeat("x", api.MaxText+1), longText(t), "block 0 10 0\n" + strings.Repeat("\n", api.MaxText), strings.Repeat("n=a 00\n", 1<<16)} {
		if b, err := Read(s); !isZero(b) || err != api.ErrBound {
			t.Errorf("%d bytes: %v, %v", len(s), b, err)
		}
	}
	// So many bytes are not too many, and are then looked at.
	if b, err := Read(strings.Repeat("x", api.MaxText)); !isZero(b) || err != api.ErrText {
		t.Error(b, err)
	}
	line := "block 0 10 1\nn=a "
	full := line + strings.Repeat("00", (api.MaxText-len(line)-1)/2) + "\n"
	if b, err := Read(full); !isZero(b) || !isWrong(err, 0, api.ErrSum) || len(full) < api.MaxText-1 {
		t.Error(len(full), b, err)
	}
}

// sized block: its text has just so many bytes, some 20000.
func sized(t *testing.T, size int) Block {
	t.Helper()
	rows := many(api.MaxSeries, 0)
	length := func() int { return len(wantedText(made(t, 0, 100, rows...))) }
	for i := 0; ; i++ {
		r := &rows[i%len(rows)]
		r.Points = append(r.Points, api.Point{At: len(r.Points), Bit: uint64(i) * 0x9E3779B97F4A7C15})
		// Far fewer points are not worth the look.
		if i > 12*len(rows) && length() > size {
			r.Points = r.Points[:len(r.Points)-1]
			break
		}
	}
	// What is short of it, values make up for.
	for i := range rows {
		rows[i].Series += strings.Repeat("0", min(size-length(), 8))
	}
	return made(t, 0, 100, rows...)
}

func TestReadOfMostBytes(t *testing.T) {
	for size := api.MaxText - 1; size <= api.MaxText+1; size++ {
		b := sized(t, size)
		s, err := Text(b)
		if len(s) != size || err != nil {
			t.Fatal(size, len(s), err)
		}
		x, err := Read(s)
		if size <= api.MaxText && (!same(x, b) || err != nil) || size > api.MaxText && (!isZero(x) || err != api.ErrBound) {
			t.Error(size, err)
		}
	}
}

func TestReadText(t *testing.T) {
	s := wantedText(whole(t))
	first, rest, _ := strings.Cut(s, "\n")
	lines := strings.SplitAfter(s, "\n")
	for i, x := range []string{
		"", "\n", " ", "block", "block\n", "block \n", "block 0\n", "block 0 10\n", "block 0 10 0", "block 0 10 0 \n", "block 0 10 0 0\n",
		" block 0 10 0\n", "block  0 10 0\n", "block 0  10 0\n", "block 0 10  0\n", "block\t0 10 0\n", "block 0 10 0\r\n", "block 0 10 0\n\n", "\nblock 0 10 0\n",
		"Block 0 10 0\n", "blocks 0 10 0\n", "bloc 0 10 0\n", "0 10 0\n", "block0 10 0\n",
		"block 00 10 0\n", "block 0 010 0\n", "block 0 10 00\n", "block -0 10 0\n", "block 0 10 -0\n", "block +0 10 0\n", "block 0 +10 0\n", "block -01 10 0\n", "block - 10 0\n", "block --1 10 0\n",
		"block 0x0 10 0\n", "block 0 1_0 0\n", "block 0 1e1 0\n", "block 0 10.0 0\n", "block a 10 0\n", "block ٣ 10 0\n", "block  10 0\n", "block 0 10 \n",
		"block 0 10 1\n", "block 0 10 -1\n", "block 0 10 1000000\n", "block 0 10 999999999999999\n",
		"block 1000000000000000 10 0\n", "block -100000000000000 10 0\n", "block 0 1000000000000000 0\n", "block 0 10 1000000000000000\n",
		"block 99999999999999999999 10 0\n", "block -9223372036854775808 10 0\n", "block 0 " + strings.Repeat("9", 1000) + " 0\n",
		strings.ToUpper(s), s + "\n", s + " ", s + s, s + "x", s[:len(s)-1], s[1:], first, first + "\n", rest,
		strings.Replace(s, " ", "  ", 1), strings.Replace(s, "n=b ", "n=b", 1), strings.Replace(s, "n=b ", "n=b  ", 1), strings.Replace(s, "n=b ", "n=b\t", 1), strings.Replace(s, "n=b ", " n=b ", 1),
		strings.Replace(s, "n=b ", "n=b x ", 1), strings.Replace(s, "n=b ", "n=b\n", 1), strings.Replace(s, "\nn=b", " \nn=b", 1), strings.Replace(s, "\nn=b", "\r\nn=b", 1), strings.Replace(s, "\nn=b", "\n\nn=b", 1),
		strings.Replace(s, "\nn=b", "0\nn=b", 1), strings.Replace(s, "\nn=b", "0g\nn=b", 1), strings.Replace(s, "\nn=b", "AA\nn=b", 1), strings.Replace(s, "\nn=b", "aA\nn=b", 1), strings.Replace(s, "\nn=b", "+1\nn=b", 1),
		strings.Replace(s, " 3\n", " 2\n", 1), strings.Replace(s, " 3\n", " 4\n", 1), strings.Replace(s, " 3\n", " 0\n", 1),
		lines[0] + lines[1] + lines[2], lines[1] + lines[0] + lines[2] + lines[3],
		// Ahead of what Check would tell.
		"block 0 0 1\n", "block 9999999999999 10 00\n", strings.Replace(s, "n=a", "N", 1) + "x", strings.Replace(s, "0 10 3", "0 0 3", 1) + "x",
		"block 0 10 61\n" + strings.Repeat("n 00\n", 60), "block 0 10 2\nn 00\nn 0\n", "block 0 10 2\nN=a 00\nn=b\n",
	} {
		if b, err := Read(x); !isZero(b) || err != api.ErrText {
			t.Errorf("%d: %q: %v, %#v", i, x, b, err)
		}
	}
}

func TestReadEachDigit(t *testing.T) {
	s := wantedText(whole(t))
	i := strings.Index(s, "n=b ") + 4
	for c := range 256 {
		for _, k := range []int{i, i + 1} {
			b, err := Read(s[:k] + string([]byte{byte(c)}) + s[k+1:])
			switch {
			case byte(c) == s[k]:
				if err != nil {
					t.Error(k, c, err)
				}
			case strings.IndexByte("0123456789abcdef", byte(c)) >= 0:
				if !isZero(b) || !isWrong(err, 1, api.ErrSum) {
					t.Error(k, c, err)
				}
			case c != '\n' && err != api.ErrText || !isZero(b):
				t.Error(k, c, err)
			}
		}
	}
}

func TestReadNumbers(t *testing.T) {
	for _, c := range []struct {
		s    string
		want error
	}{
		{"block -1099511627776 100000 0\n", nil},
		{"block 1099511627776 1 0\n", nil},
		{"block -1 1 0\n", nil},
		{"block -10 10 0\n", nil},
		{"block 1099511627777 1 0\n", api.ErrBound},
		{"block -1099511627777 1 0\n", api.ErrBound},
		{"block 999999999999999 1 0\n", api.ErrBound},      // fifteen bytes
		{"block -99999999999999 1 0\n", api.ErrBound},      // fifteen, with the sign
		{"block -999999999999999 1 0\n", api.ErrText},      // sixteen
		{"block 1000000000000000 1 0\n", api.ErrText},      // sixteen
		{"block 0 999999999999999 0\n", api.ErrBound},      // and so of the span
		{"block 0 -99999999999999 0\n", api.ErrBound},      //
		{"block 0 -999999999999999 0\n", api.ErrText},      //
		{"block 0 1 999999999999999\n", api.ErrText},       // so many there are not
		{"block 0 1 -5\n", api.ErrText},                    //
		{"block 0 0 0\n", api.ErrBound},                    //
		{"block 0 -1 0\n", api.ErrBound},                   //
		{"block 0 100001 0\n", api.ErrBound},               //
		{"block 1099511627777 999999 0\n", api.ErrBound},   //
		{"block 0 18446744073709551617 0\n", api.ErrText},  // 1, if it were not too long
		{"block 18446744073709551616 1 0\n", api.ErrText},  // 0
		{"block 0 1 18446744073709551616\n", api.ErrText},  // 0
		{"block 0000000000000000 1 0\n", api.ErrText},      //
		{"block 0 1 340282366920938463463\n", api.ErrText}, //
		{"block -00000000000001 1 0\n", api.ErrText},       //
		{"block 0 1 " + strconv.Itoa(0) + "\n", nil},       //
		{"block " + strconv.Itoa(7) + " 1 0\n", nil},       //
		{"block " + strconv.Itoa(-1<<40) + " 1 0\n", nil},  //
		{"block " + strconv.Itoa(math.MinInt) + " 1 0\n", api.ErrText},
	} {
		b, err := Read(c.s)
		if err != c.want || err != nil && !isZero(b) {
			t.Errorf("%q: %v, %v", c.s, b, err)
		}
		if err == nil && wantedText(b) != c.s {
			t.Errorf("%q: %v", c.s, b)
		}
	}
}

func TestReadTellsChecksErrors(t *testing.T) {
	told := 0
	for i, h := range harms(t) {
		b := whole(t)
		h.how(&b)
		if len(b.Series) != len(b.Chunks) {
			continue
		}
		s := wantedText(b)
		if !form().MatchString(s) {
			continue
		}
		told++
		if x, err := Read(s); !isZero(x) || !isWrong(err, h.at, h.want) {
			t.Errorf("%d: %v, %#v; not %d, %v", i, x, err, h.at, h.want)
		}
	}
	if told < 25 {
		t.Error(told)
	}
	// More series than there may be.
	b := Block{Span: 10}
	for _, s := range names(api.MaxSeries + 1) {
		b.Series, b.Chunks = append(b.Series, s), append(b.Chunks, chunkOf(t, of("", 5)))
	}
	if x, err := Read(wantedText(b)); !isZero(x) || err != api.ErrBound {
		t.Error(x, err)
	}
}

// form of a text, as an expression.
func form() *regexp.Regexp {
	const number = `(0|[1-9][0-9]{0,14}|-[1-9][0-9]{0,13})`
	return regexp.MustCompile(`\Ablock ` + number + " " + number + " " + number + `\n((?:[^ \n]* (?:[0-9a-f][0-9a-f])*\n)*)\z`)
}

// modelRead takes a text apart by an expression.
func modelRead(s string) (Block, error) {
	if len(s) > api.MaxText {
		return Block{}, api.ErrBound
	}
	m := form().FindStringSubmatch(s)
	if m == nil {
		return Block{}, api.ErrText
	}
	var numbers []int
	for _, w := range m[1:4] {
		n, err := strconv.ParseInt(w, 10, 64)
		if err != nil {
			return Block{}, err
		}
		numbers = append(numbers, int(n))
	}
	b := Block{From: numbers[0], Span: numbers[1]}
	for _, line := range strings.SplitAfter(m[4], "\n") {
		if line == "" {
			continue
		}
		series, packed, _ := strings.Cut(strings.TrimSuffix(line, "\n"), " ")
		x, err := hex.DecodeString(packed)
		if err != nil {
			return Block{}, err
		}
		b.Series, b.Chunks = append(b.Series, series), append(b.Chunks, string(x))
	}
	if len(b.Series) != numbers[2] {
		return Block{}, api.ErrText
	}
	if err := Check(b); err != nil {
		return Block{}, err
	}
	return b, nil
}

// readAsTheModel tells the same, and what it reads has just this text.
func readAsTheModel(t *testing.T, s string) {
	t.Helper()
	want, wrong := modelRead(s)
	b, err := Read(s)
	if !same(b, want) || !reflect.DeepEqual(err, wrong) {
		t.Fatalf("%q: %v, %#v; not %v, %#v", s, b, err, want, wrong)
	}
	if err == nil {
		if again, err := Text(b); again != s || err != nil {
			t.Fatalf("%q: %q, %v", s, again, err)
		}
	}
}

func TestReadAsTheModel(t *testing.T) {
	s := wantedText(whole(t))
	for i := range len(s) {
		readAsTheModel(t, s[:i])
		readAsTheModel(t, s[i:])
		readAsTheModel(t, s[:i]+s[i+1:])
		for _, c := range "0 9-af\n=gAn\x00\xff" {
			readAsTheModel(t, s[:i]+string(c)+s[i+1:])
			readAsTheModel(t, s[:i]+string(c)+s[i:])
		}
	}
}

func FuzzRead(f *testing.F) {
	b, err := Make(-3, 9, []api.Row{of("a=x", 0, 1), of("b=y,c=z", -3)})
	if err != nil {
		f.Fatal(err)
	}
	f.Add(wantedText(b))
	f.Add("block 0 10 0\n")
	f.Add("block 0 10 1\nn=a 00\n")
	f.Fuzz(readAsTheModel)
}
