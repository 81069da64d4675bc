package play

import (
	"fmt"
	"math"
	"slices"
	"strings"
	"testing"

	"tidegauge/api"
	"tidegauge/store"
	"tidegauge/wal"
)

// Numbers of a script, q aside.
const (
	flush   = 4
	compact = 5
	cut     = 6
	boot    = 7
)

// On, Far: to be added: one tick on, and five, of series n=a.
const (
	On  = 8 * 0
	Far = 8 * 12
)

// times a number, a piece of a script.
func times(n, v int) []int { return slices.Repeat([]int{v}, n) }

// answers that a script must have.
func answers(t *testing.T, p *Play, script, want []int) {
	t.Helper()
	if l := Run(p, script); !slices.Equal(l, want) {
		t.Fatal(l, want)
	}
}

// well goes a script: nothing but 0.
func well(t *testing.T, p *Play, script ...int) {
	t.Helper()
	answers(t, p, script, times(len(script), 0))
}

// rows of a play, as a text.
func rows(t *testing.T, p *Play) string {
	t.Helper()
	l, err := p.S.Select(nil, math.MinInt, math.MaxInt)
	if err != nil {
		t.Fatal(err)
	}
	return fmt.Sprint(l)
}

// blocks of a play, as a text.
func blocks(p *Play) string {
	var l []string
	for _, b := range p.S.Blocks() {
		l = append(l, fmt.Sprint(b.From, "+", b.Span))
	}
	return strings.Join(l, " ")
}

// told is everything that a play tells without being changed.
func told(t *testing.T, p *Play) string {
	t.Helper()
	return fmt.Sprintf("%v %v %v %q", rows(t, p), p.S.Blocks(), p.D.Power(), p.D.Bytes())
}

// logged points, as wal has them.
func logged(t *testing.T, l ...wal.Entry) string {
	t.Helper()
	d, err := wal.NewDisk("")
	if err != nil {
		t.Fatal(err)
	}
	for _, e := range l {
		if err := wal.Append(d, e.Series, e.P); err != nil {
			t.Fatal(e, err)
		}
	}
	return d.Bytes()
}

// P110: a new play.

func TestNew(t *testing.T) {
	p := New()
	if told(t, p) != `[] [] true ""` {
		t.Fatal(told(t, p))
	}
	// The store is one of the disk.
	point := api.Point{At: 49, Bit: 3}
	if err := p.S.Add("n=a", point); err != nil || p.D.Bytes() != logged(t, wal.Entry{Series: "n=a", P: point}) {
		t.Error(err, p.D.Bytes())
	}
	if n, err := p.S.Flush(49); n != 0 || err != nil {
		t.Error(n, err)
	}
	if n, err := p.S.Flush(50); n != 1 || err != nil || blocks(p) != "0+50" {
		t.Error(n, err, blocks(p))
	}
}

func TestNewPlaysAreApart(t *testing.T) {
	p, q := New(), New()
	well(t, p, On, Far, cut)
	if told(t, q) != `[] [] true ""` || p.D == q.D || p.S == q.S {
		t.Error(told(t, q))
	}
	well(t, q, On, Far)
}

// sixKept of eight blocks.
func sixKept(t *testing.T, p *Play) {
	t.Helper()
	for n := range 8 {
		if err := p.S.Add("n=b", api.Point{At: 100*n + 7}); err != nil {
			t.Fatal(n, err)
		}
	}
	if n, err := p.S.Flush(1000); n != 8 || err != nil || blocks(p) != "200+50 300+50 400+50 500+50 600+50 700+50" {
		t.Fatal(n, err, blocks(p))
	}
}

func TestSixBlocksAreKept(t *testing.T) {
	sixKept(t, New())
	p := New()
	well(t, p, boot)
	sixKept(t, p)
}

// P110: points.

func TestAddGoesOn(t *testing.T) {
	// By q, from 0 on: how much further now is.
	more := []int{1, 1, 1, 2, 2, 2, 3, 3, 3, 4, 4, 4, 5, 5, 5, 1, 1, 1, 2, 2}
	series := []string{"n=a", "n=b", "m=x,n=a"}
	for kind := range 4 {
		p := New()
		var want []wal.Entry
		var script []int
		now := 0
		for q, n := range more {
			now += n
			script = append(script, 8*q+kind)
			want = append(want, wal.Entry{Series: series[q%3], P: api.Point{At: now, Bit: uint64(q)}})
		}
		well(t, p, script...)
		if p.D.Bytes() != logged(t, want...) {
			t.Errorf("%d: %q", kind, p.D.Bytes())
		}
	}
}

func TestAddOfEachKind(t *testing.T) {
	p := New()
	well(t, p, 8*0+0, 8*4+1, 8*14+2, 8*16+3, 8*7+0)
	if rows(t, p) != "[{m=x,n=a [{8 14}]} {n=a [{1 0}]} {n=b [{3 4} {9 16} {12 7}]}]" {
		t.Error(rows(t, p))
	}
}

func TestAddOfGreatValues(t *testing.T) {
	p := New()
	well(t, p, math.MaxInt-4, math.MaxInt-5, 1<<62, 1<<40+3)
	// Modulo 15 the values are 0, 0, 8 and 2: of these come series and ticks.
	if rows(t, p) != "[{m=x,n=a [{5 576460752303423488} {6 137438953472}]} {n=a [{1 1152921504606846975} {2 1152921504606846975}]}]" {
		t.Error(rows(t, p))
	}
}

func TestBelowZero(t *testing.T) {
	p := New()
	well(t, p, On, Far, flush)
	was := told(t, p)
	script := []int{-1, -2, -3, -4, -5, -6, -7, -8, -9, -96, -97, math.MinInt, math.MinInt + 1, math.MinInt + 7}
	answers(t, p, script, times(len(script), -1))
	if told(t, p) != was {
		t.Error(told(t, p))
	}
	// Nor does now go on by them, or go back.
	p = New()
	answers(t, p, []int{On, -96, -8, On}, []int{0, -1, -1, 0})
	if rows(t, p) != "[{n=a [{1 0} {2 0}]}]" {
		t.Error(rows(t, p))
	}
}

func TestNothingToRun(t *testing.T) {
	p := New()
	if l := Run(p, nil); len(l) > 0 {
		t.Error(l)
	}
	if l := Run(p, []int{}); len(l) > 0 {
		t.Error(l)
	}
	if told(t, p) != `[] [] true ""` {
		t.Error(told(t, p))
	}
}

func TestSteps(t *testing.T) {
	for _, n := range []int{0, 1, api.MaxSteps - 2, api.MaxSteps - 1, api.MaxSteps, api.MaxSteps + 1, 2 * api.MaxSteps} {
		script := append(times(n, -7), On, On)
		want := append(times(n, -1), 0, 0)
		p := New()
		answers(t, p, script, want[:min(len(want), api.MaxSteps)])
		// What is too much is not done either.
		left := min(2, max(0, api.MaxSteps-n))
		if l, _ := wal.Read(p.D.Bytes()); len(l) != left {
			t.Error(n, l)
		}
	}
}

func TestNowIsTheRuns(t *testing.T) {
	p := New()
	well(t, p, Far, Far)
	// At 5 and 10 there are points; at 1, 6, 11 there is none, but the first two are old.
	answers(t, p, []int{On, Far, Far, On}, []int{8, 8, 0, 0})
	if rows(t, p) != "[{n=a [{5 12} {10 12} {11 12} {12 0}]}]" {
		t.Error(rows(t, p))
	}
	// Another series has none of these; 1 is not more than 1.
	well(t, p, 8*1)
	answers(t, p, []int{8 * 1, 8 * 1}, []int{8, 0})
	// A flush is one of a now that is 0 at first.
	well(t, p, times(11, 8*13)...)
	well(t, p, flush)
	if blocks(p) != "" {
		t.Error(blocks(p))
	}
}

func TestNowGoesOnBehindErrors(t *testing.T) {
	p := New()
	answers(t, p, []int{On, cut, Far, 8 * 7, boot, On}, []int{0, 0, 10, 10, 0, 0})
	if rows(t, p) != "[{n=a [{1 0} {10 0}]}]" {
		t.Error(rows(t, p))
	}
}

// P110: flush and compact.

func TestFlushOfNow(t *testing.T) {
	// 45 and 4 more: not yet.
	p := New()
	well(t, p, append(times(9, Far), 8*9, flush)...)
	if blocks(p) != "" {
		t.Error(blocks(p))
	}
	// 45 and 5 more: what is at 50 stays in the head, and in the log.
	p = New()
	well(t, p, append(times(10, Far), flush)...)
	if blocks(p) != "0+50" || p.D.Bytes() != logged(t, wal.Entry{Series: "n=a", P: api.Point{At: 50, Bit: 12}}) {
		t.Errorf("%v %q", blocks(p), p.D.Bytes())
	}
	if s := rows(t, p); s != "[{n=a [{5 12} {10 12} {15 12} {20 12} {25 12} {30 12} {35 12} {40 12} {45 12} {50 12}]}]" {
		t.Error(s)
	}
}

// q does not count for flush, compact and boot.
func TestRestIsLeftAside(t *testing.T) {
	for _, q := range []int{0, 1, 59, 60, 999, math.MaxInt / 8} {
		p := New()
		well(t, p, append(times(20, Far), 8*q+flush)...)
		if blocks(p) != "0+50 50+50" {
			t.Error(q, blocks(p))
		}
		well(t, p, 8*q+compact)
		if blocks(p) != "0+100" {
			t.Error(q, blocks(p))
		}
		well(t, p, 8*q+boot)
		if rows(t, p) != "[{n=a [{100 12}]}]" || blocks(p) != "" {
			t.Error(q, rows(t, p), blocks(p))
		}
	}
}

func TestCompact(t *testing.T) {
	p := New()
	well(t, p, compact)
	well(t, p, append(times(10, Far), flush, compact)...)
	if blocks(p) != "0+50" {
		t.Error(blocks(p))
	}
	p = New()
	well(t, p, append(times(30, Far), flush, compact)...)
	if blocks(p) != "0+100 100+50" {
		t.Error(blocks(p))
	}
	well(t, p, compact)
	was := told(t, p)
	well(t, p, compact, compact)
	if blocks(p) != "0+150" || told(t, p) != was {
		t.Error(blocks(p))
	}
}

func TestEldestBlocksGo(t *testing.T) {
	p := New()
	var script []int
	for range 8 {
		script = append(script, append(times(10, Far), flush)...)
	}
	well(t, p, script...)
	if blocks(p) != "100+50 150+50 200+50 250+50 300+50 350+50" {
		t.Error(blocks(p))
	}
}

// P110: power.

func TestCut(t *testing.T) {
	for q, n := range map[int]int{0: 0, 1: 1, 30: 30, 59: 59, 60: 0, 61: 1, 119: 59, 60*777 + 42: 42, 1<<60 - 1: 15} {
		p := New()
		well(t, p, 8*q+cut)
		if !p.D.Power() || p.D.Bytes() != "" {
			t.Error(q)
		}
		l := Run(p, times(9, On))
		if l[8] != 10 || p.D.Power() || len(p.D.Bytes()) != n {
			t.Error(q, l, len(p.D.Bytes()))
		}
	}
}

func TestCutWithoutPower(t *testing.T) {
	p := New()
	answers(t, p, []int{cut, On, cut, 8*30 + cut, On}, []int{0, 10, 10, 10, 10})
	// With power a later one counts.
	p = New()
	well(t, p, cut, 8*59+cut, On)
	if !p.D.Power() || rows(t, p) != "[{n=a [{1 0}]}]" {
		t.Error(rows(t, p))
	}
}

func TestFlushWithoutPower(t *testing.T) {
	p := New()
	answers(t, p, append(times(10, Far), cut, Far, flush, compact, boot), append(times(10, 0), 0, 10, 10, 0, 0))
	// Blocks were made, and the log could not be cleared: it has all.
	if blocks(p) != "" || rows(t, p) != "[{n=a [{5 12} {10 12} {15 12} {20 12} {25 12} {30 12} {35 12} {40 12} {45 12} {50 12}]}]" {
		t.Error(blocks(p), rows(t, p))
	}
	p = New()
	answers(t, p, append(times(10, Far), cut, Far, flush), append(times(10, 0), 0, 10, 10))
	if blocks(p) != "0+50" {
		t.Error(blocks(p))
	}
	// Power fails while the log is written anew.
	p = New()
	answers(t, p, append(times(10, Far), 8*7+cut, flush, Far), append(times(10, 0), 0, 10, 10))
	if blocks(p) != "0+50" || len(p.D.Bytes()) != 7 || p.D.Power() {
		t.Error(blocks(p), p.D.Bytes())
	}
}

func TestBoot(t *testing.T) {
	p := New()
	well(t, p, append(times(11, Far), flush)...)
	d, s := p.D, p.S
	well(t, p, boot)
	if p.D != d || p.S == s || blocks(p) != "" || rows(t, p) != "[{n=a [{50 12} {55 12}]}]" {
		t.Error(blocks(p), rows(t, p))
	}
	// A cut that waits is off, a piece of a record is gone, and power is there.
	well(t, p, cut, boot, 8*1)
	answers(t, p, []int{8*5 + cut, 8 * 2, boot, 8 * 2}, []int{0, 10, 0, 0})
	if !p.D.Power() || rows(t, p) != "[{m=x,n=a [{2 2}]} {n=a [{50 12} {55 12}]} {n=b [{1 1}]}]" {
		t.Error(rows(t, p))
	}
}

// Boot itself is what its number asks for.
func TestBootByCall(t *testing.T) {
	p, q := New(), New()
	for _, x := range []*Play{p, q} {
		answers(t, x, append(times(11, Far), flush, 8*5+cut, 8*1), append(times(13, 0), 10))
	}
	s := p.S
	well(t, q, boot)
	if err := p.Boot(); err != nil || p.S == s || told(t, p) != told(t, q) {
		t.Error(err, told(t, p), told(t, q))
	}
}

// A series whose points all went into blocks is not known any more when these are gone.
func TestBootForgets(t *testing.T) {
	p := New()
	well(t, p, append(append(times(9, Far), times(1, 8*13)...), flush)...)
	answers(t, p, []int{On, boot, On}, []int{8, 0, 0})
	if rows(t, p) != "[{n=a [{2 0}]} {n=b [{50 13}]}]" {
		t.Error(rows(t, p))
	}
}

// Boot is of the disk that the play has then, and makes span and keep those of a play.
func TestBootOfAnotherDisk(t *testing.T) {
	b := logged(t, wal.Entry{Series: "k=v", P: api.Point{At: 3, Bit: 9}}, wal.Entry{Series: "k=v", P: api.Point{At: 60}})
	d, err := wal.NewDisk(b + "piece")
	if err != nil {
		t.Fatal(err)
	}
	p := New()
	if p.S, err = store.New(p.D, 7, 1); err != nil {
		t.Fatal(err)
	}
	p.D = d
	well(t, p, boot)
	if rows(t, p) != "[{k=v [{3 9} {60 0}]}]" || d.Bytes() != b {
		t.Error(rows(t, p), d.Bytes())
	}
	well(t, p, append(times(30, Far), flush)...)
	if blocks(p) != "0+50 50+50 100+50" {
		t.Error(blocks(p))
	}
}

// P110: other errors, by plain's numbers.

func TestLogIsFull(t *testing.T) {
	p := New()
	l := Run(p, times(api.MaxSteps, On))
	full := slices.Index(l, 7)
	if full < 1000 || slices.ContainsFunc(l[:full], isWrong) || !slices.Equal(l[full:], times(api.MaxSteps-full, 7)) {
		t.Fatal(full, l)
	}
	if n := len(p.D.Bytes()); n > api.MaxBytes || n < api.MaxBytes-40 {
		t.Error(n)
	}
}

func isWrong(code int) bool { return code != 0 }

func TestSeriesAreFull(t *testing.T) {
	p := New()
	for i := range api.MaxSeries {
		if err := p.S.Add(fmt.Sprintf("z=%d", i), api.Point{}); err != nil {
			t.Fatal(err)
		}
	}
	answers(t, p, []int{8 * 0, 8 * 1, 8 * 2}, []int{7, 7, 7})
}

// A store of another span may have stretches that are too full for a block.
func TestStretchIsFull(t *testing.T) {
	p := New()
	var err error
	if p.S, err = store.New(p.D, 200, 6); err != nil {
		t.Fatal(err)
	}
	answers(t, p, append(times(200, On), flush), append(times(200, 0), 7))
}

// P3, P4.

func TestScriptIsOnlyRead(t *testing.T) {
	room := []int{On, Far, -1, flush, On, On}
	was := slices.Clone(room)
	p := New()
	l := Run(p, room[:4])
	if !slices.Equal(l, []int{0, 0, -1, 0}) || !slices.Equal(room, was) || rows(t, p) != "[{n=a [{1 0} {6 12}]}]" {
		t.Fatal(l, room, rows(t, p))
	}
	l = append(l, 5, 5)
	clear(l)
	if !slices.Equal(room, was) {
		t.Error(room)
	}
	state := told(t, p)
	clear(room)
	if told(t, p) != state {
		t.Error(told(t, p))
	}
}
