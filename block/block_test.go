package block

import (
	"errors"
	"fmt"
	"math"
	"reflect"
	"slices"
	"strconv"
	"strings"
	"testing"

	"tidegauge/api"
	"tidegauge/chunk"
	"tidegauge/label"
)

// at a tick, a point whose value tells it from others.
func at(tick int) api.Point {
	return api.Point{At: tick, Bit: uint64(tick)*3 + 1}
}

// of points at ticks, a row.
func of(series string, ticks ...int) api.Row {
	r := api.Row{Series: series}
	for _, x := range ticks {
		r.Points = append(r.Points, at(x))
	}
	return r
}

// even ticks: so many, from one on.
func even(n, from, step int) []int {
	var l []int
	for i := range n {
		l = append(l, from+i*step)
	}
	return l
}

// names of so many series, rising.
func names(n int) []string {
	var l []string
	for i := range n {
		l = append(l, "n="+strconv.Itoa(1000+i))
	}
	return l
}

// many rows, each of a point at one tick.
func many(n, tick int) []api.Row {
	var l []api.Row
	for _, s := range names(n) {
		l = append(l, of(s, tick))
	}
	return l
}

// made block of rows that are well.
func made(t *testing.T, from, span int, l ...api.Row) Block {
	t.Helper()
	b, err := Make(from, span, l)
	if err != nil {
		t.Fatal(err)
	}
	return b
}

// chunkOf points that are well.
func chunkOf(t *testing.T, r api.Row) string {
	t.Helper()
	s, err := chunk.Encode(r.Points)
	if err != nil {
		t.Fatal(err)
	}
	return s
}

// clone of a block: no memory of lists is shared.
func clone(b Block) Block {
	return Block{From: b.From, Span: b.Span, Series: append([]string(nil), b.Series...), Chunks: append([]string(nil), b.Chunks...)}
}

// same blocks: a nil list and an empty one are one thing.
func same(a, b Block) bool {
	return a.From == b.From && a.Span == b.Span && slices.Equal(a.Series, b.Series) && slices.Equal(a.Chunks, b.Chunks)
}

// isWrong tells whether an error is the one wanted: bare (a place below 0), or with its place.
func isWrong(err error, at int, want error) bool {
	if at < 0 {
		return err == want
	}
	f, ok := err.(*api.Fault)
	return ok && f.At == at && f.Err == want && errors.Is(err, want)
}

// zero block: what is answered with an error.
func isZero(b Block) bool {
	return b.From == 0 && b.Span == 0 && len(b.Series) == 0 && len(b.Chunks) == 0
}

// well blocks of all kinds.
func wells(t *testing.T) []Block {
	return []Block{
		made(t, 0, 1),
		made(t, 0, 1, of("n=a", 0)),
		made(t, -10, 20, of("n=a", -10, 0, 9), of("n=b"), of("n=c", 5)),
		made(t, 7, api.MaxSpan, of("a-=x", 7), of("a=x", api.MaxSpan+6), of("a=x,b=y", 7, 8, api.MaxSpan+6)),
		made(t, -api.MaxTime, 1, of("n=a", -api.MaxTime)),
		made(t, api.MaxTime, 1, of("n=a", api.MaxTime)),
		made(t, api.MaxTime, api.MaxSpan, of("n=a", api.MaxTime)),
		made(t, api.MaxTime-5, 5, of("n=a", api.MaxTime-5, api.MaxTime-1)),
		made(t, 3, 2*api.MaxPoints, of("n=a", even(api.MaxPoints, 3, 2)...), of("n=b", even(api.MaxPoints, 4, 1)...)),
		made(t, 5, 1, many(api.MaxSeries, 5)...),
	}
}

// P80.

// wantedFault of a row in Make, by the chapter's words, one after the other.
func wantedFault(from, span int, ahead *api.Row, r api.Row) error {
	var f *api.Fault
	_, err := label.Read(r.Series)
	if errors.As(err, &f) {
		return f.Err
	}
	if err != nil {
		return err
	}
	if ahead != nil && !(r.Series > ahead.Series) {
		return api.ErrShape
	}
	err = chunk.Check(r.Points)
	if errors.As(err, &f) {
		return f.Err
	}
	if err != nil {
		return err
	}
	for _, p := range r.Points {
		if p.At < from || p.At > from+span-1 {
			return api.ErrBound
		}
	}
	return nil
}

// model of Make.
func model(from, span int, l []api.Row) (Block, error) {
	if span < 1 || span > api.MaxSpan || from < -api.MaxTime || from > api.MaxTime || len(l) > api.MaxSeries {
		return Block{}, api.ErrBound
	}
	b := Block{From: from, Span: span}
	for i, r := range l {
		var ahead *api.Row
		if i > 0 {
			ahead = &l[i-1]
		}
		if err := wantedFault(from, span, ahead, r); err != nil {
			return Block{}, &api.Fault{At: i, Err: err}
		}
		if len(r.Points) > 0 {
			s, err := chunk.Encode(r.Points)
			if err != nil {
				return Block{}, err
			}
			b.Series, b.Chunks = append(b.Series, r.Series), append(b.Chunks, s)
		}
	}
	return b, nil
}

func TestMake(t *testing.T) {
	b := made(t, -10, 20, of("n=a", -10, 0, 9), of("n=b"), of("n=c", 5), of("n=d"))
	want := Block{From: -10, Span: 20, Series: []string{"n=a", "n=c"}, Chunks: []string{chunkOf(t, of("", -10, 0, 9)), chunkOf(t, of("", 5))}}
	if !same(b, want) {
		t.Errorf("%#v", b)
	}
	for i, l := range [][]api.Row{nil, {}, {of("n=a")}, {of("n=a"), of("n=b")}} {
		if b, err := Make(7, 9, l); !same(b, Block{From: 7, Span: 9}) || err != nil {
			t.Error(i, b, err)
		}
	}
	if b := made(t, 5, 1, many(api.MaxSeries, 5)...); !slices.Equal(b.Series, names(api.MaxSeries)) || len(b.Chunks) != api.MaxSeries {
		t.Error(b.Series)
	}
}

func TestMakeBounds(t *testing.T) {
	for _, c := range []struct {
		from, span, rows int
		ok               bool
	}{
		{0, 1, 0, true}, {0, 0, 0, false}, {0, -1, 0, false}, {0, math.MinInt, 0, false},
		{0, api.MaxSpan, 0, true}, {0, api.MaxSpan + 1, 0, false}, {0, math.MaxInt, 0, false}, {1, math.MaxInt, 0, false},
		{-api.MaxTime, 1, 0, true}, {-api.MaxTime - 1, 1, 0, false}, {math.MinInt, 1, 0, false}, {math.MinInt, math.MinInt, 0, false},
		{api.MaxTime, api.MaxSpan, 0, true}, {api.MaxTime + 1, 1, 0, false}, {math.MaxInt, api.MaxSpan, 0, false},
		{0, 1, api.MaxSeries, true}, {0, 1, api.MaxSeries + 1, false}, {0, 1, 1000, false},
	} {
		// Rows without points are rows, and count.
		l := many(c.rows, 0)
		for i := range l {
			l[i].Points = nil
		}
		b, err := Make(c.from, c.span, l)
		if c.ok != (err == nil) || err != nil && (err != api.ErrBound || !isZero(b)) {
			t.Error(c, b, err)
		}
		// And so says Check, of series.
		x := Block{From: c.from, Span: c.span}
		for _, r := range many(c.rows, c.from) {
			x.Series, x.Chunks = append(x.Series, r.Series), append(x.Chunks, chunkOf(t, of("", 0)))
		}
		if err := Check(x); c.ok != (err == nil) || err != nil && err != api.ErrBound {
			t.Error(c, err)
		}
	}
}

func TestMakeFaults(t *testing.T) {
	long := of("n=z", even(api.MaxPoints+1, 0, 1)...)
	for i, c := range []struct {
		l    []api.Row
		at   int
		want error
	}{
		{[]api.Row{of("", 1)}, 0, api.ErrText},
		{[]api.Row{of("n", 1)}, 0, api.ErrText},
		{[]api.Row{of("n=", 1)}, 0, api.ErrName},
		{[]api.Row{of("a=x,N=a", 1)}, 0, api.ErrName}, // the place within the labels is not told
		{[]api.Row{of("b=x,a=x", 1)}, 0, api.ErrShape},
		{[]api.Row{of("a=1,b=2,c=3,d=4,e=5,f=6,g=7", 1)}, 0, api.ErrBound},
		{[]api.Row{of("n=a", 1), of("n", 1)}, 1, api.ErrText},
		{[]api.Row{of("n=a", 1), of("n=a", 2)}, 1, api.ErrShape},
		{[]api.Row{of("n=b", 1), of("n=a", 2)}, 1, api.ErrShape},
		{[]api.Row{of("a=x", 1), of("a-=x", 1)}, 1, api.ErrShape}, // texts count, not names
		{[]api.Row{of("n=a", 1), of("n=b", 1), of("n=ab", 1)}, 2, api.ErrShape},
		{[]api.Row{of("n=a", 2, 1)}, 0, api.ErrOld},
		{[]api.Row{of("n=a", 1, 2, 2)}, 0, api.ErrOld}, // nor the place within the points
		{[]api.Row{of("n=a", 1), of("n=b", 2, 1)}, 1, api.ErrOld},
		{[]api.Row{long}, 0, api.ErrBound},
		{[]api.Row{of("n=a", api.MaxTime+1)}, 0, api.ErrBound},
		{[]api.Row{of("n=a", -1)}, 0, api.ErrBound},
		{[]api.Row{of("n=a", 9)}, 0, api.ErrBound},
		{[]api.Row{of("n=a", 0, 8), of("n=b", 0, 8, 9)}, 1, api.ErrBound},
		{[]api.Row{of("n=a", 0, 8), of("n=b", -1, 0, 8)}, 1, api.ErrBound},
		// Rows without points are looked at as well, and are ahead of others.
		{[]api.Row{of("n")}, 0, api.ErrText},
		{[]api.Row{of("n=a"), of("n=A")}, 1, api.ErrName},
		{[]api.Row{of("n=a", 1), of("n=a")}, 1, api.ErrShape},
		{[]api.Row{of("n=a"), of("n=a", 1)}, 1, api.ErrShape},
		{[]api.Row{of("n=a", 1), of("n=c"), of("n=b", 1)}, 2, api.ErrShape},
		// Of several errors of one row the one named first; of several rows the first.
		{[]api.Row{of("n=b", 1), of("M=a", 99, 1)}, 1, api.ErrName},
		{[]api.Row{of("n=b", 1), of("n=a", 99, 1)}, 1, api.ErrShape},
		{[]api.Row{of("n=a", 99, 1)}, 0, api.ErrOld},
		{[]api.Row{of("n=a", 0, 99, 1)}, 0, api.ErrOld},
		{[]api.Row{of("n=a", 9), of("n", 1)}, 0, api.ErrBound},
		{[]api.Row{of("n=a", 1), of("n=b", 2, 1), of("n=b", 1), of("n", 9)}, 1, api.ErrOld},
	} {
		b, err := Make(0, 9, c.l)
		if !isZero(b) || !isWrong(err, c.at, c.want) {
			t.Errorf("%d: %v, %#v; not %d, %v", i, b, err, c.at, c.want)
		}
		// Bounds are told ahead of all of it.
		if b, err := Make(0, 0, c.l); !isZero(b) || err != api.ErrBound {
			t.Error(i, b, err)
		}
	}
}

func TestMakeAsTheModel(t *testing.T) {
	series := []string{"a=x", "a=x", "a-=x", "b=1", "a=x,b=1", "n=z", "n", "N=a", "z=z"}
	good := 0
	for seed := range uint64(6000) {
		next := func(n uint64) int {
			seed = seed*6364136223846793005 + 1442695040888963407
			return int(seed >> 33 % n)
		}
		from, span := next(9)-4, next(40)
		var l []api.Row
		for range next(4) {
			r := of(series[next(9)])
			for tick := next(9) - 1; len(r.Points) < next(5); tick += next(7) {
				r.Points = append(r.Points, at(from+tick))
			}
			l = append(l, r)
		}
		want, wrong := model(from, span, l)
		b, err := Make(from, span, l)
		if !same(b, want) || !reflect.DeepEqual(err, wrong) {
			t.Fatalf("%d %d %v: %v, %v; not %v, %v", from, span, l, b, err, want, wrong)
		}
		if err == nil {
			good += len(b.Series)
			if err := Check(b); err != nil {
				t.Fatal(b, err)
			}
		}
	}
	if good < 100 {
		t.Error("few were well:", good)
	}
}

func TestCheckOfWells(t *testing.T) {
	for i, b := range wells(t) {
		if err := Check(b); err != nil {
			t.Error(i, err)
		}
	}
}

// harm to a block, and what is told of it.
type harm struct {
	how  func(b *Block)
	at   int
	want error
}

func harms(t *testing.T) []harm {
	none := chunkOf(t, api.Row{})
	early, late, far := chunkOf(t, of("", -1, 3)), chunkOf(t, of("", 3, 10)), chunkOf(t, of("", api.MaxTime))
	turned := func(s string, i int) string { return s[:i] + string([]byte{s[i] ^ 1}) + s[i+1:] }
	return []harm{
		{func(b *Block) { *b = Block{} }, -1, api.ErrBound},
		{func(b *Block) { b.Span = 0 }, -1, api.ErrBound},
		{func(b *Block) { b.Span = -1 }, -1, api.ErrBound},
		{func(b *Block) { b.Span = api.MaxSpan + 1 }, -1, api.ErrBound},
		{func(b *Block) { b.Span = math.MaxInt }, -1, api.ErrBound},
		{func(b *Block) { b.From = api.MaxTime + 1 }, -1, api.ErrBound},
		{func(b *Block) { b.From = -api.MaxTime - 1 }, -1, api.ErrBound},
		{func(b *Block) { b.From = math.MinInt }, -1, api.ErrBound},
		{func(b *Block) { b.Series = make([]string, api.MaxSeries+1) }, -1, api.ErrBound},
		{func(b *Block) { b.Series = b.Series[:2] }, -1, api.ErrShape},
		{func(b *Block) { b.Series = append(b.Series, "n=d") }, -1, api.ErrShape},
		{func(b *Block) { b.Chunks = b.Chunks[:2] }, -1, api.ErrShape},
		{func(b *Block) { b.Chunks = nil }, -1, api.ErrShape},
		{func(b *Block) { b.Series = nil }, -1, api.ErrShape},
		{func(b *Block) { b.Chunks = make([]string, api.MaxSeries+1) }, -1, api.ErrShape},
		{func(b *Block) { b.Series[0] = "" }, 0, api.ErrText},
		{func(b *Block) { b.Series[1] = "n" }, 1, api.ErrText},
		{func(b *Block) { b.Series[2] = "n=c,N=x" }, 2, api.ErrName},
		{func(b *Block) { b.Series[2] = "z=c,a=x" }, 2, api.ErrShape},
		{func(b *Block) { b.Series[2] = "n=c " }, 2, api.ErrName},
		{func(b *Block) { b.Series[2] = "n=c\n" }, 2, api.ErrName},
		{func(b *Block) { b.Series[1] = "n=a" }, 1, api.ErrShape},
		{func(b *Block) { b.Series[1] = "m=z" }, 1, api.ErrShape},
		{func(b *Block) { b.Series[0] = "n=b" }, 1, api.ErrShape},
		{func(b *Block) { b.Series[2] = "n=a" }, 2, api.ErrShape},
		{func(b *Block) { b.Chunks[1] = "" }, 1, api.ErrText},
		{func(b *Block) { b.Chunks[1] = b.Chunks[1][:4] }, 1, api.ErrText},
		{func(b *Block) { b.Chunks[1] += "x" }, 1, api.ErrSum},
		{func(b *Block) { b.Chunks[0] = turned(b.Chunks[0], 2) }, 0, api.ErrSum},
		{func(b *Block) { b.Chunks[2] = turned(b.Chunks[2], len(b.Chunks[2])-1) }, 2, api.ErrSum},
		{func(b *Block) { b.Chunks[1] = sealed("\x01") }, 1, api.ErrText},
		{func(b *Block) { b.Chunks[1] = sealed("\xff\xff\xff") }, 1, api.ErrText},
		{func(b *Block) { b.Chunks[1] = none }, 1, api.ErrNone},
		{func(b *Block) { b.Chunks[0] = none }, 0, api.ErrNone},
		{func(b *Block) { b.Chunks[2] = early }, 2, api.ErrBound},
		{func(b *Block) { b.Chunks[0] = late }, 0, api.ErrBound},
		{func(b *Block) { b.Chunks[0] = far }, 0, api.ErrBound},
		{func(b *Block) { b.Span = 9 }, 1, api.ErrBound},
		{func(b *Block) { b.From = 1 }, 0, api.ErrBound},
		{func(b *Block) { b.From = 100 }, 0, api.ErrBound},
		// Of several errors the one named first; of several series the first.
		{func(b *Block) { b.Span, b.Chunks = 0, nil }, -1, api.ErrBound},
		{func(b *Block) { b.Chunks, b.Series[0] = nil, "n" }, -1, api.ErrShape},
		{func(b *Block) { b.Series[1], b.Chunks[1] = "m", "" }, 1, api.ErrText},
		{func(b *Block) { b.Series[1], b.Chunks[1] = "M=m", none }, 1, api.ErrName},
		{func(b *Block) { b.Series[1], b.Chunks[1] = "m=m", "" }, 1, api.ErrShape},
		{func(b *Block) { b.Series[1], b.Chunks[1] = "n=a", none }, 1, api.ErrShape},
		{func(b *Block) { b.Series[1], b.Chunks[1] = "n=a", late }, 1, api.ErrShape},
		{func(b *Block) { b.Chunks[0], b.Series[1] = late, "n" }, 0, api.ErrBound},
		{func(b *Block) { b.Chunks[0], b.Chunks[1] = none, "" }, 0, api.ErrNone},
		{func(b *Block) { b.Series[2], b.Chunks[1] = "", late }, 1, api.ErrBound},
	}
}

// sealed bytes: with a chunk's sum, which they need not be.
func sealed(s string) string {
	n := chunk.Sum(s)
	return s + string([]byte{byte(n >> 24), byte(n >> 16), byte(n >> 8), byte(n)})
}

// whole block, to be harmed.
func whole(t *testing.T) Block {
	return made(t, 0, 10, of("n=a", 0, 4), of("n=b", 2, 9), of("n=c", 5))
}

func TestCheckOfHarms(t *testing.T) {
	for i, h := range harms(t) {
		b := whole(t)
		h.how(&b)
		before := clone(b)
		if err := Check(b); !isWrong(err, h.at, h.want) {
			t.Errorf("%d: %#v; not %d, %v", i, err, h.at, h.want)
		}
		if !same(b, before) {
			t.Error(i, b)
		}
	}
}

// P81.

func TestPoints(t *testing.T) {
	b := made(t, -10, 20, of("n=a", -10, 0, 9), of("n=c", 5))
	for i, c := range []struct {
		series   string
		from, to int
		want     []int
	}{
		{"n=a", math.MinInt, math.MaxInt, []int{-10, 0, 9}},
		{"n=a", -10, 9, []int{-10, 0, 9}}, // both ends with them
		{"n=a", -9, 9, []int{0, 9}},
		{"n=a", -10, 8, []int{-10, 0}},
		{"n=a", 0, 0, []int{0}},
		{"n=a", 1, 8, nil},
		{"n=a", 9, -10, nil},
		{"n=a", math.MaxInt, math.MinInt, nil},
		{"n=c", -10, 9, []int{5}},
		{"n=b", math.MinInt, math.MaxInt, nil},
		{"n=", math.MinInt, math.MaxInt, nil},
		{"n=aa", math.MinInt, math.MaxInt, nil},
		{"", math.MinInt, math.MaxInt, nil}, // no such series, whatever the text
		{"N", math.MinInt, math.MaxInt, nil},
	} {
		if l, err := Points(b, c.series, c.from, c.to); !slices.Equal(l, of("", c.want...).Points) || err != nil {
			t.Error(i, l, err)
		}
	}
	if l, err := Points(made(t, 0, 1), "n=a", 0, 0); len(l) > 0 || err != nil {
		t.Error(l, err)
	}
}

func TestPointsOfWhatIsMade(t *testing.T) {
	rows := []api.Row{of("a=x", even(api.MaxPoints, -50, 3)...), of("b=x"), of("c=x", 7), {Series: "d=x", Points: []api.Point{{At: -50, Bit: math.MaxUint64}, {At: 949}}}}
	b := made(t, -50, 1000, rows...)
	for _, r := range rows {
		if l, err := Points(b, r.Series, math.MinInt, math.MaxInt); !slices.Equal(l, r.Points) || err != nil {
			t.Error(r.Series, l, err)
		}
	}
}

func TestPointsTellsChecksErrors(t *testing.T) {
	for i, h := range harms(t) {
		b := whole(t)
		h.how(&b)
		for _, s := range []string{"n=a", "n=b", "n=x", "", "N"} {
			if l, err := Points(b, s, 0, 9); len(l) > 0 || !isWrong(err, h.at, h.want) {
				t.Errorf("%d, %s: %v, %#v; not %d, %v", i, s, l, err, h.at, h.want)
			}
		}
	}
}

func TestJoin(t *testing.T) {
	a := made(t, -10, 20, of("n=a", -10, 0, 9), of("n=c", 5), of("x=x", 1))
	b := made(t, 10, 5, of("m=a", 11), of("n=a", 10, 12), of("x=x", 14), of("z=z", 14))
	want := made(t, -10, 25, of("m=a", 11), of("n=a", -10, 0, 9, 10, 12), of("n=c", 5), of("x=x", 1, 14), of("z=z", 14))
	if j, err := Join(a, b); !same(j, want) || err != nil {
		t.Error(j, err)
	}
	if j, err := Join(made(t, 3, 4), made(t, 7, 2)); !same(j, Block{From: 3, Span: 6}) || err != nil {
		t.Error(j, err)
	}
	if j, err := Join(made(t, 3, 4), made(t, 7, 2, of("n=a", 8))); !same(j, made(t, 3, 6, of("n=a", 8))) || err != nil {
		t.Error(j, err)
	}
	if j, err := Join(made(t, 3, 4, of("n=a", 3)), made(t, 7, 2)); !same(j, made(t, 3, 6, of("n=a", 3))) || err != nil {
		t.Error(j, err)
	}
	last := made(t, api.MaxTime-1, 1, of("n=a", api.MaxTime-1))
	if j, err := Join(last, made(t, api.MaxTime, 7, of("n=a", api.MaxTime))); !same(j, made(t, api.MaxTime-1, 8, of("n=a", api.MaxTime-1, api.MaxTime))) || err != nil {
		t.Error(j, err)
	}
}

func TestJoinOfWhatLiesElsewhere(t *testing.T) {
	a := made(t, 0, 10, of("n=a", 3))
	for _, from := range []int{-10, -1, 0, 1, 9, 11, 20, 1000} {
		if j, err := Join(a, made(t, from, 5)); !isZero(j) || err != api.ErrShape {
			t.Error(from, j, err)
		}
	}
	if j, err := Join(a, a); !isZero(j) || err != api.ErrShape {
		t.Error(j, err)
	}
	// Told ahead of what would be too much.
	if j, err := Join(made(t, 0, api.MaxSpan), made(t, api.MaxSpan+1, 1)); !isZero(j) || err != api.ErrShape {
		t.Error(j, err)
	}
}

func TestJoinOfTooMuch(t *testing.T) {
	other := func(n int) []api.Row {
		l := many(n, 10)
		for i := range l {
			l[i].Series = "z" + l[i].Series
		}
		return l
	}
	long := func(n, from int) api.Row { return of("n=b", even(n, from, 1)...) }
	for i, c := range []struct {
		a, b Block
		ok   bool
	}{
		{made(t, 0, api.MaxSpan-1), made(t, api.MaxSpan-1, 1), true},
		{made(t, 0, api.MaxSpan), made(t, api.MaxSpan, 1), false},
		{made(t, 0, 1), made(t, 1, api.MaxSpan), false},
		{made(t, 0, api.MaxSpan), made(t, api.MaxSpan, api.MaxSpan), false},
		{made(t, 0, 10, many(api.MaxSeries, 1)...), made(t, 10, 5, many(api.MaxSeries, 10)...), true},
		{made(t, 0, 10, many(api.MaxSeries-7, 1)...), made(t, 10, 5, other(7)...), true},
		{made(t, 0, 10, many(api.MaxSeries-7, 1)...), made(t, 10, 5, other(8)...), false},
		{made(t, 0, 10, many(api.MaxSeries, 1)...), made(t, 10, 5, other(1)...), false},
		{made(t, 0, 10, many(api.MaxSeries, 1)...), made(t, 10, 5, other(api.MaxSeries)...), false},
		{made(t, 0, 100, of("n=a", 1), long(50, 0)), made(t, 100, 100, long(70, 100)), true},
		{made(t, 0, 100, of("n=a", 1), long(50, 0)), made(t, 100, 100, long(71, 100)), false},
		{made(t, 0, 200, long(api.MaxPoints, 0)), made(t, 200, 1, long(1, 200)), false},
		{made(t, 0, 200, long(1, 0)), made(t, 200, 200, long(api.MaxPoints, 200)), false},
		{made(t, 0, 200, long(api.MaxPoints, 0)), made(t, 200, 200, of("n=a", even(api.MaxPoints, 200, 1)...)), true},
	} {
		j, err := Join(c.a, c.b)
		if c.ok != (err == nil) || err != nil && (err != api.ErrBound || !isZero(j)) {
			t.Errorf("%d: %#v", i, err)
		}
		if err == nil && (j.From != c.a.From || j.Span != c.a.Span+c.b.Span || Check(j) != nil) {
			t.Error(i, j)
		}
	}
}

func TestJoinTellsChecksErrors(t *testing.T) {
	all := harms(t)
	for i, h := range all {
		bad, ahead, behind := whole(t), made(t, -5, 5), made(t, 10, 5)
		h.how(&bad)
		for k, pair := range [][2]Block{{bad, behind}, {ahead, bad}, {bad, ahead}, {behind, bad}, {bad, bad}} {
			if j, err := Join(pair[0], pair[1]); !isZero(j) || !isWrong(err, h.at, h.want) {
				t.Errorf("%d, %d: %v, %#v; not %d, %v", i, k, j, err, h.at, h.want)
			}
		}
		// Those of the first block are told ahead of those of the second.
		for _, o := range all {
			worse := whole(t)
			o.how(&worse)
			if j, err := Join(bad, worse); !isZero(j) || !isWrong(err, h.at, h.want) {
				t.Errorf("%d: %v, %#v; not %d, %v", i, j, err, h.at, h.want)
			}
		}
	}
}

// P83.

// all points of a block, by series and tick.
func all(t *testing.T, b Block) map[string]map[int]uint64 {
	t.Helper()
	m := map[string]map[int]uint64{}
	for i, s := range b.Series {
		l, err := chunk.Decode(b.Chunks[i])
		if err != nil {
			t.Fatal(err)
		}
		m[s] = map[int]uint64{}
		for _, p := range l {
			m[s][p.At] = p.Bit
		}
	}
	return m
}

func TestJoinedHaveAllPointsOfBoth(t *testing.T) {
	for seed := range uint64(400) {
		next := func(n uint64) int {
			seed = seed*6364136223846793005 + 1442695040888963407
			return int(seed >> 33 % n)
		}
		random := func(from, span int) Block {
			var l []api.Row
			for _, s := range names(8) {
				r := api.Row{Series: s}
				for tick := from + next(9); tick < from+span && next(6) > 0; tick += 1 + next(5) {
					r.Points = append(r.Points, api.Point{At: tick, Bit: uint64(next(1 << 30))})
				}
				l = append(l, r)
			}
			return made(t, from, span, l...)
		}
		a, b := random(-7, 20), random(13, 30)
		j, err := Join(a, b)
		if err != nil || Check(j) != nil {
			t.Fatal(a, b, j, err)
		}
		want := all(t, a)
		for s, points := range all(t, b) {
			if want[s] == nil {
				want[s] = map[int]uint64{}
			}
			for tick, v := range points {
				want[s][tick] = v
			}
		}
		if got := all(t, j); !reflect.DeepEqual(got, want) {
			t.Fatal(got, want)
		}
	}
}

func TestJoinedInAnyOrderAreTheSame(t *testing.T) {
	a, b, c := made(t, 0, 5, of("n=a", 1), of("n=c", 4)), made(t, 5, 5, of("n=b", 5, 9), of("n=c", 7)), made(t, 10, 5, of("n=a", 10), of("n=b", 11))
	ab, e1 := Join(a, b)
	left, e2 := Join(ab, c)
	bc, e3 := Join(b, c)
	right, e4 := Join(a, bc)
	if !same(left, right) || e1 != nil || e2 != nil || e3 != nil || e4 != nil {
		t.Error(left, right, e1, e2, e3, e4)
	}
}

// P3 and P4.

// behind a list's length, what must stay.
func behind(l []string) ([]string, []string) {
	held := append(append([]string(nil), l...), "behind")
	return held[:len(l)], held
}

func TestOnlyRead(t *testing.T) {
	a, b := whole(t), made(t, 10, 5, of("n=a", 12), of("z=z", 14))
	var heldSeries, heldChunks []string
	a.Series, heldSeries = behind(a.Series)
	a.Chunks, heldChunks = behind(a.Chunks)
	before, other := clone(a), clone(b)
	if err := Check(a); err != nil {
		t.Error(err)
	}
	if _, err := Points(a, "n=a", 0, 9); err != nil {
		t.Error(err)
	}
	if _, err := Join(a, b); err != nil {
		t.Error(err)
	}
	if _, err := Text(a); err != nil {
		t.Error(err)
	}
	if !same(a, before) || !same(b, other) || heldSeries[3] != "behind" || heldChunks[3] != "behind" {
		t.Error(a, b, heldSeries, heldChunks)
	}
	rows := append(make([]api.Row, 0, 9), of("n=a", 1, 2), of("n=b"), of("n=c", 3))
	rows[0].Points = append(make([]api.Point, 0, 9), rows[0].Points...)
	told := fmt.Sprint(rows)
	if _, err := Make(0, 9, rows); err != nil || fmt.Sprint(rows) != told || fmt.Sprint(rows[:9][3:]) != fmt.Sprint(make([]api.Row, 6)) {
		t.Error(rows[:9], err)
	}
	if more := rows[0].Points[:9][2:]; !slices.Equal(more, make([]api.Point, 7)) {
		t.Error(more)
	}
}

func TestWhatIsBehindIsNotRead(t *testing.T) {
	b := whole(t)
	b.Series, b.Chunks = b.Series[:1], b.Chunks[:1]
	if l, err := Points(b, "n=b", 0, 9); len(l) > 0 || err != nil {
		t.Error(l, err)
	}
	rows := []api.Row{of("n=a", 1), of("n=b", 2), of("n", 3)}
	if x := made(t, 0, 9, rows[:1]...); !slices.Equal(x.Series, []string{"n=a"}) {
		t.Error(x)
	}
}

func TestNewMemory(t *testing.T) {
	rows := []api.Row{of("n=a", 1, 2), of("n=b", 3)}
	a := made(t, 0, 10, rows...)
	before := clone(a)
	rows[0].Series, rows[0].Points[0], rows[1] = "x=x", api.Point{At: 77}, api.Row{}
	if !same(a, before) {
		t.Fatal(a)
	}
	b := made(t, 10, 5)
	j, err := Join(a, b)
	if err != nil {
		t.Fatal(err)
	}
	for i := range j.Series {
		j.Series[i], j.Chunks[i] = "x", "y"
	}
	_, _ = append(j.Series, "x"), append(j.Chunks, "y")
	l, err := Points(a, "n=a", 0, 9)
	if err != nil || !slices.Equal(l, of("", 1, 2).Points) {
		t.Fatal(l, err)
	}
	l[0] = api.Point{}
	if again, _ := Points(a, "n=a", 0, 9); !same(a, before) || !slices.Equal(again, of("", 1, 2).Points) {
		t.Error(a, again)
	}
	s, _ := Text(a)
	x, err := Read(s)
	if err != nil {
		t.Fatal(err)
	}
	x.Series[0], x.Chunks[0] = "x", "y"
	if again, err := Read(s); !same(again, before) || err != nil {
		t.Error(again, err)
	}
}

func TestJoinIsTheSameEachTime(t *testing.T) {
	a, b := made(t, 0, 10, many(api.MaxSeries, 1)...), made(t, 10, 5, many(api.MaxSeries, 11)...)
	first, err := Join(a, b)
	if err != nil {
		t.Fatal(err)
	}
	for range 50 {
		if j, err := Join(a, b); !same(j, first) || err != nil || !slices.IsSorted(j.Series) {
			t.Fatal(j, err)
		}
	}
}

// longText is of a block whose text is longer than Read takes.
func longText(t *testing.T) string {
	t.Helper()
	var l []api.Row
	for _, s := range names(api.MaxSeries) {
		r := api.Row{Series: s}
		for i := range api.MaxPoints {
			r.Points = append(r.Points, api.Point{At: i * i, Bit: uint64(i) * 0x9E3779B97F4A7C15})
		}
		l = append(l, r)
	}
	s, err := Text(made(t, 0, api.MaxSpan, l...))
	if err != nil {
		t.Fatal(err)
	}
	return s
}

func TestTextOfMuch(t *testing.T) {
	s := longText(t)
	if len(s) <= api.MaxText || strings.Count(s, "\n") != 1+api.MaxSeries {
		t.Error(len(s))
	}
	if b, err := Read(s); !isZero(b) || err != api.ErrBound {
		t.Error(err)
	}
}
