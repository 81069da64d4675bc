package script

import (
	"fmt"
	"hash/crc32"
	"slices"
	"strconv"
	"strings"
	"testing"

	"tidegauge/api"
	"tidegauge/chunk"
)

// told of lines, which must not be too many.
func told(t *testing.T, lines []string) []string {
	t.Helper()
	l, err := Run(lines)
	if err != nil || len(l) != len(lines) {
		t.Fatal(lines, l, err)
	}
	return l
}

// answers that lines must have: each line, a bar, its answer.
func answers(t *testing.T, script ...string) {
	t.Helper()
	var lines, want []string
	for _, s := range script {
		line, answer, found := strings.Cut(s, "|")
		if !found {
			t.Fatal(s)
		}
		lines, want = append(lines, line), append(want, answer)
	}
	for i, s := range told(t, lines) {
		if s != want[i] {
			t.Errorf("%d, %q: %q, not %q", i, lines[i], s, want[i])
		}
	}
}

// P130: how many lines.

func TestNoLines(t *testing.T) {
	for _, lines := range [][]string{nil, {}} {
		if l, err := Run(lines); len(l) != 0 || err != nil {
			t.Error(l, err)
		}
	}
}

func TestTooManyLines(t *testing.T) {
	for _, n := range []int{1, 2, api.MaxLines - 1, api.MaxLines} {
		if l := told(t, slices.Repeat([]string{"blocks"}, n)); !slices.Equal(l, slices.Repeat([]string{"nothing"}, n)) {
			t.Error(n, l)
		}
	}
	for _, n := range []int{api.MaxLines + 1, api.MaxLines + 2, 5000} {
		// Also of lines that are none.
		for _, line := range []string{"blocks", "add n=a 1 1", "", "what"} {
			if l, err := Run(slices.Repeat([]string{line}, n)); len(l) != 0 || err != api.ErrBound {
				t.Error(n, line, l, err)
			}
		}
	}
}

// P130: points.

func TestAdd(t *testing.T) {
	answers(t,
		"add n=a 0 0|ok",
		"add n=a 1 9999999|ok",
		"add n=a 9999999 1|ok",
		"add n=b 5 6|ok",
		"add a=0,b-=-,c9=9z 7 8|ok",
		"get n=a 0 9999999|n=a 0:0 1:9999999 9999999:1",
		"get n=b 0 9999999|n=b 5:6",
		"get c9=9z 0 9|a=0,b-=-,c9=9z 7:8",
	)
}

func TestAddOfOldOnes(t *testing.T) {
	answers(t,
		"add n=a 10 1|ok",
		"add n=a 10 1|tidegauge: old",
		"add n=a 9 1|tidegauge: old",
		"add n=b 9 1|ok",
		"add n=a 11 3|ok",
		"flush 50|1",
		"add n=c 49 1|tidegauge: old",
		"add n=c 50 1|ok",
		"get n=a 0 99|n=a 10:1 11:3",
		"get n=c 0 99|n=c 50:1",
	)
}

func TestAddOfTooManySeries(t *testing.T) {
	var script []string
	for i := range api.MaxSeries {
		script = append(script, fmt.Sprintf("add n=x,s=%d %d 1|ok", i, i))
	}
	answers(t, append(script, "add n=x,s=60 70 1|tidegauge: full", "add n=x,s=59 70 1|ok", "sum n=x 0 99|61 1 1 1 61")...)
}

func TestMostLabels(t *testing.T) {
	six := "a=1,b=2,c=3,d=4,e=5,f=6"
	long := strings.Repeat("n", 12) + "=" + strings.Repeat("0", 12)
	answers(t,
		"add "+six+" 1 2|ok",
		"add "+long+" 3 4|ok",
		"add "+six+",g=7 1 2|tidegauge: text",
		"add "+long+"0 3 4|tidegauge: text",
		"add n"+long+" 3 4|tidegauge: text",
		"get "+six+" 0 9|"+six+" 1:2",
		"get b=2,f=6 0 9|"+six+" 1:2",
		"get "+six+",g=7 0 9|tidegauge: text",
		"get "+long+" 0 9|"+long+" 3:4",
	)
}

// P130: selected points, and their sums.

func TestGet(t *testing.T) {
	answers(t,
		"get n=a 0 9999999|nothing",
		"add n=a 3 7|ok",
		"add m=x,n=a 40 9|ok",
		"add m=y,n=a 41 10|ok",
		"add m=x,n=b 42 11|ok",
		"add n=ab 43 12|ok",
		"add n=a 55 8|ok",
		// Rows rise, and each label must be there: its whole value.
		"get n=a 0 99|m=x,n=a 40:9; m=y,n=a 41:10; n=a 3:7 55:8",
		"get m=x 0 99|m=x,n=a 40:9; m=x,n=b 42:11",
		"get m=x,n=a 0 99|m=x,n=a 40:9",
		"get m=x,n=c 0 99|nothing",
		"get n=ab 0 99|n=ab 43:12",
		"get k=a 0 99|nothing",
		// Both ends are with them; rows without points are none.
		"get n=a 3 40|m=x,n=a 40:9; n=a 3:7",
		"get n=a 4 40|m=x,n=a 40:9",
		"get n=a 3 39|n=a 3:7",
		"get n=a 55 55|n=a 55:8",
		"get n=a 56 99|nothing",
		"get n=a 40 3|nothing",
	)
}

func TestGetOfBlocksAndHead(t *testing.T) {
	answers(t,
		"add n=a 10 1|ok", "add n=a 60 2|ok", "add n=b 61 3|ok", "add n=a 110 4|ok",
		"flush 100|2",
		"get n=a 0 999|n=a 10:1 60:2 110:4",
		"get n=b 0 999|n=b 61:3",
		"compact|joined",
		"get n=a 0 999|n=a 10:1 60:2 110:4",
		"get n=a 60 60|n=a 60:2",
		"sum n=a 0 999|3 1 4 4 7",
	)
}

func TestSum(t *testing.T) {
	answers(t,
		"sum n=a 0 9999999|0 0 0 0 0",
		"add n=a 1 5|ok", "add n=a 2 3|ok", "add n=a 3 9|ok", "add n=a 4 4|ok",
		"sum n=a 0 9|4 3 9 4 21",
		"sum n=a 2 3|2 3 9 9 12",
		"sum n=a 1 1|1 5 5 5 5",
		"sum n=a 5 9|0 0 0 0 0",
		"sum n=a 3 2|0 0 0 0 0",
		"sum n=b 0 9|0 0 0 0 0",
		// The last one is that of the last row, not of the last tick.
		"add m=x,n=a 8 1|ok",
		"sum n=a 0 9|5 1 9 4 22",
		"sum m=x 0 9|1 1 1 1 1",
		"add m=x,n=a 10 9999999|ok", "add m=x,n=a 11 9999999|ok",
		"sum m=x,n=a 9 11|2 9999999 9999999 9999999 19999998",
	)
}

// P130: blocks.

func TestFlush(t *testing.T) {
	answers(t,
		"flush 0|0", "flush 9999999|0", "blocks|nothing",
		"add n=a 49 1|ok",
		"flush 49|0", "blocks|nothing",
		"flush 50|1", "blocks|0+50",
		"flush 50|0",
		"add n=a 60 1|ok", "add n=b 160 1|ok", "add n=b 199 1|ok", "add n=c 200 1|ok",
		"flush 249|2", "blocks|0+50 50+50 150+50",
		"flush 9999999|1", "blocks|0+50 50+50 150+50 200+50",
	)
}

func TestSixBlocksAreKept(t *testing.T) {
	script := []string{"boot|ok"} // one anew keeps as many
	for i := range 8 {
		script = append(script, fmt.Sprintf("add n=a %d %d|ok", i*100+7, i))
	}
	answers(t, append(script, "flush 1000|8", "blocks|200+50 300+50 400+50 500+50 600+50 700+50", "get n=a 0 299|n=a 207:2", "compact|nothing")...)
	answers(t, append(script[1:], "flush 300|3", "blocks|0+50 100+50 200+50", "flush 750|5", "blocks|200+50 300+50 400+50 500+50 600+50 700+50")...)
}

func TestCompact(t *testing.T) {
	answers(t,
		"compact|nothing",
		"add n=a 0 1|ok", "flush 50|1", "compact|nothing",
		"add n=a 100 1|ok", "add n=a 150 1|ok", "add n=a 200 1|ok", "flush 250|3",
		"blocks|0+50 100+50 150+50 200+50",
		"compact|joined", "blocks|0+50 100+100 200+50",
		"compact|joined", "blocks|0+50 100+150",
		"compact|nothing", "blocks|0+50 100+150",
		"get n=a 0 999|n=a 0:1 100:1 150:1 200:1",
	)
}

// P130: power.

func TestCut(t *testing.T) {
	answers(t,
		"add n=a 1 1|ok",
		"cut 3|ok",
		"add n=a 2 1|tidegauge: off",
		"cut 3|tidegauge: off", "cut 0|tidegauge: off",
		"add n=a 3 1|tidegauge: off",
		// What is known stays until a boot.
		"get n=a 0 9|n=a 1:1",
		"boot|ok",
		"get n=a 0 9|n=a 1:1",
		"add n=a 2 7|ok",
		"get n=a 0 9|n=a 1:1 2:7",
	)
	// As many bytes as a record of these has: 2, n=a@1=, 16 digits, 4.
	answers(t, "cut 28|ok", "add n=a 1 1|ok", "add n=a 2 1|tidegauge: off", "boot|ok", "get n=a 0 9|n=a 1:1")
	answers(t, "cut 27|ok", "add n=a 1 1|tidegauge: off", "boot|ok", "get n=a 0 9|nothing")
	answers(t, "cut 0|ok", "cut 9999999|ok", "add n=a 1 1|ok", "cut 0|ok", "boot|ok", "add n=a 2 1|ok")
}

func TestFlushWithoutPower(t *testing.T) {
	answers(t,
		"add n=a 1 1|ok", "add n=a 60 2|ok",
		"cut 0|ok", "add n=a 61 3|tidegauge: off",
		"flush 50|tidegauge: off", "blocks|0+50", "get n=a 0 99|n=a 1:1 60:2",
		// The log could not be cleared: it still has both.
		"boot|ok", "blocks|nothing", "get n=a 0 99|n=a 1:1 60:2",
	)
}

func TestBoot(t *testing.T) {
	answers(t,
		"boot|ok", "boot|ok",
		"add n=a 1 1|ok", "add n=b 60 2|ok", "flush 50|1",
		"boot|ok",
		// Blocks are gone, and with them what was old.
		"blocks|nothing", "get n=a 0 99|nothing", "get n=b 0 99|n=b 60:2",
		"add n=a 0 5|ok", "add n=b 60 2|tidegauge: old",
		"flush 100|2", "blocks|0+50 50+50",
	)
}

// P130: chunks.

// packed bits as a chunk in digits: filled to bytes, and with their sum.
func packed(t *testing.T, bits ...string) string {
	t.Helper()
	s := strings.Join(bits, "")
	s += zeros((8 - len(s)%8) % 8)
	var b []byte
	for ; s != ""; s = s[8:] {
		n, err := strconv.ParseUint(s[:8], 2, 8)
		if err != nil {
			t.Fatal(err)
		}
		b = append(b, byte(n))
	}
	return fmt.Sprintf("%x%08x", b, crc32.ChecksumIEEE(b))
}

func zeros(n int) string { return strings.Repeat("0", n) }

func TestChunk(t *testing.T) {
	const one, two, four = "00000001", "00000010", "00000100"
	answers(t,
		"chunk 0|"+packed(t, one, "0", zeros(64)),
		"chunk 7|"+packed(t, one, "101000110", zeros(64)),
		"chunk 9999999|"+packed(t, one, "1111", fmt.Sprintf("%064b", 9999999), zeros(64)),
		"chunk 1 2|"+packed(t, two, "101000000", "101000000", zeros(64), "1111111100001", zeros(32)+"1"),
		"chunk 10 20 30 40|"+packed(t, four, "101001001", "101001001", "00", zeros(64), "1111111100001", zeros(32)+"1", "10", zeros(31)+"11", "10", zeros(32)+"1"),
		"chunk 7|01a3000000000000000000e866dffe",
	)
}

// ticks from a first one on, n of them, as a line has them.
func ticks(first, n int) string {
	var s strings.Builder
	for i := range n {
		fmt.Fprint(&s, " ", first+i)
	}
	return s.String()
}

func TestChunkOfMany(t *testing.T) {
	var l []api.Point
	for i := range api.MaxPoints {
		l = append(l, api.Point{At: 5 + i, Bit: uint64(i)})
	}
	s, err := chunk.Encode(l)
	if err != nil {
		t.Fatal(err)
	}
	answers(t,
		fmt.Sprintf("chunk%s|%x", ticks(5, api.MaxPoints), s),
		"chunk"+ticks(5, api.MaxPoints+1)+"|tidegauge: bound",
		// Too many are told ahead of an old one.
		"chunk 9"+ticks(5, api.MaxPoints)+"|tidegauge: bound",
		"chunk"+ticks(0, 5000)+"|tidegauge: bound",
	)
}

func TestChunkOfOldTicks(t *testing.T) {
	answers(t,
		"chunk 5 5|tidegauge: old",
		"chunk 5 4|tidegauge: old",
		"chunk 0 1 2 3 9999999 3|tidegauge: old",
	)
}

// A chunk has nothing to do with the play: with points, or without power.
func TestChunkIsApart(t *testing.T) {
	answers(t,
		"add n=a 50 1|ok", "cut 0|ok", "add n=a 51 1|tidegauge: off", "flush 100|tidegauge: off",
		"chunk 7|01a3000000000000000000e866dffe",
		"get n=a 0 99|n=a 50:1", "blocks|50+50",
	)
}

// P131.

// wrong lines, each of which is none.
func wrong() []string {
	l := []string{
		"", " ", "  ", "what", "ad", "addn=a 1 1", "ADD n=a 1 1", "Boot", "boots", "n=a 1 1", "1", "ok", "nothing", "\x00", "\xff\xfe", "ä",
		"add", "add n=a", "add n=a 1", "add n=a 1 1 1", "add 1 1", "add 1 n=a 1", "add 1 1 n=a", "add 1 1 1", "add n=a,1 1",
		"get", "get n=a", "get n=a 0", "get n=a 0 9 9", "get 0 9", "sum", "sum n=a", "sum n=a 0", "sum n=a 0 9 9", "sum 0 9",
		"flush", "flush n=a", "flush 1 1", "flush now", "cut", "cut 1 1", "cut n=a 1", "chunk", "chunk n=a", "chunk n=a 1", "chunk 1 n=a",
		"compact 1", "boot 1", "blocks 1", "compact n=a", "boot n=a", "blocks n=a",
		"boot blocks", "boot\nblocks", "boot;blocks",
	}
	for _, labels := range []string{"", "n", "=", "n=", "=a", "n=A", "N=a", "n=ä", "n=a_", "n=a,", ",n=a", "n=a,,o=b", "n=a;o=b", "n==a", "n=a=a", "9=a", "-=a", "n=a,n=b", "n=a,n=a", "o=a,n=b", "n=a,", "n=a\t", "n=aaaaaaaaaaaaa", "nnnnnnnnnnnnn=a", "a=1,b=2,c=3,d=4,e=5,f=6,g=7"} {
		l = append(l, "add "+labels+" 60 1", "get "+labels+" 0 99", "sum "+labels+" 0 99")
	}
	for _, n := range []string{"", "-1", "-0", "+1", "00", "01", "007", "0000001", "10000000", "12345678", "00000000", "99999999999999999999999", "1.0", "1e3", "0x1", "1_0", "a", "1a", "a1", "٣", "1\t", "\n1", "1\n"} {
		l = append(l, "flush "+n, "cut "+n, "chunk "+n, "chunk 1 "+n, "chunk 5 5 "+n, "add n=a "+n+" 1", "add n=a 60 "+n, "get n=a "+n+" 9", "get n=a 0 "+n, "sum n=a "+n+" 9", "sum n=a 0 "+n)
	}
	for _, right := range []string{"add n=a 60 1", "flush 50", "compact", "cut 0", "boot", "get n=a 0 99", "sum n=a 0 99", "blocks", "chunk 1 2"} {
		l = append(l, " "+right, right+" ", right+"\n", right+"\r", "\t"+right, strings.ToUpper(right))
		if strings.Contains(right, " ") {
			l = append(l, strings.ReplaceAll(right, " ", "  "), strings.ReplaceAll(right, " ", "\t"), strings.Replace(right, " ", "", 1))
		}
	}
	return l
}

// Lines that are none are answered so, and do nothing: not a part of what they begin with either.
func TestNoLine(t *testing.T) {
	first := []string{"add n=a 10 1", "flush 50", "add n=a 55 2"}
	last := []string{"blocks", "get n=a 0 99", "add n=b 56 3", "flush 60", "compact"}
	want := []string{"0+50", "n=a 10:1 55:2", "ok", "0", "nothing"}
	for part := range slices.Chunk(wrong(), api.MaxLines-len(first)-len(last)) {
		l := told(t, slices.Concat(first, part, last))[len(first):]
		for i, line := range part {
			if l[i] != "tidegauge: text" {
				t.Errorf("%q: %q", line, l[i])
			}
		}
		if !slices.Equal(l[len(part):], want) {
			t.Errorf("%q: %q", part, l[len(part):])
		}
	}
}

func TestLongLines(t *testing.T) {
	for _, s := range []string{" ", "1", "n=a,", "chunk ", "chunk 1 ", "\x00"} {
		long := strings.Repeat(s, 1<<18)
		for _, line := range []string{long, "add " + long, "flush " + long, "boot " + long, "get " + long + " 0 9", "chunk 1 " + long} {
			if l := told(t, []string{line}); l[0] != "tidegauge: text" {
				t.Errorf("%.30q: %q", line, l)
			}
		}
	}
}

// An error of one line does not end the script.
func TestGoesOnBehindErrors(t *testing.T) {
	answers(t, "what|tidegauge: text", "add n=a 5 1|ok", "add n=a 5 2|tidegauge: old", "chunk 1 1|tidegauge: old", "get n=a 0 9|n=a 5:1")
}

// P3 and P4.

func TestLinesAreOnlyRead(t *testing.T) {
	room := []string{"add n=a 5 1", "get n=a 0 9", "add n=a 6 1", "what"}
	was := slices.Clone(room)
	l := told(t, room[:2])
	if !slices.Equal(l, []string{"ok", "n=a 5:1"}) {
		t.Error(l)
	}
	_ = append(l, "more")
	clear(l)
	if !slices.Equal(room, was) {
		t.Error(room)
	}
	l = told(t, room)
	clear(room)
	if !slices.Equal(l, []string{"ok", "n=a 5:1", "ok", "tidegauge: text"}) {
		t.Error(l)
	}
}
