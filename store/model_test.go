package store

import (
	"math"
	"reflect"
	"slices"
	"sort"
	"testing"

	"tidegauge/api"
	"tidegauge/block"
	"tidegauge/label"
	"tidegauge/wal"
)

// P93, and all calls against a model: a list of all points ever, each with where it is, in which nothing is found but by going through it, and a disk of its own.

const (
	inHead = iota
	inBlock
	gone
)

type entry struct {
	series string
	p      api.Point
	place  int
}

type model struct {
	disk       *wal.Disk
	span, keep int
	all        []entry
	blocks     [][2]int // from, and the tick behind the last
}

// open anew: what the log has.
func (m *model) open() {
	l, _ := wal.Recover(m.disk)
	m.all, m.blocks = nil, nil
	for _, e := range l {
		if e.P.At >= 0 && m.wrong(e.Series, e.P) == nil {
			m.all = append(m.all, entry{series: e.Series, p: e.P})
		}
	}
}

// wrong tells why a point is not added, the log aside.
func (m *model) wrong(series string, p api.Point) error {
	_, err := label.Read(series)
	if err != nil {
		return err
	}
	if p.At < 0 || p.At > api.MaxTime {
		return api.ErrBound
	}
	others := map[string]int{}
	for _, e := range m.all {
		if e.series != series {
			others[e.series]++
		} else if e.p.At >= p.At {
			return api.ErrOld
		}
	}
	if len(others) == api.MaxSeries {
		return api.ErrFull
	}
	if n := len(m.blocks); n > 0 && p.At < m.blocks[n-1][1] {
		return api.ErrOld
	}
	return nil
}

func (m *model) add(series string, p api.Point) error {
	if err := m.wrong(series, p); err != nil {
		return err
	}
	if err := wal.Append(m.disk, series, p); err != nil {
		return err
	}
	m.all = append(m.all, entry{series: series, p: p})
	return nil
}

// rows of entries at these places, between two ticks.
func (m *model) rows(from, to int, places ...int) []api.Row {
	var rows []api.Row
	for _, e := range m.all {
		if !slices.Contains(places, e.place) || e.p.At < from || e.p.At > to {
			continue
		}
		i := slices.IndexFunc(rows, func(r api.Row) bool { return r.Series == e.series })
		if i < 0 {
			i, rows = len(rows), append(rows, api.Row{Series: e.series})
		}
		rows[i].Points = append(rows[i].Points, e.p)
	}
	sort.Slice(rows, func(i, j int) bool { return rows[i].Series < rows[j].Series })
	return rows
}

// move entries between two ticks to a place.
func (m *model) move(from, to, place int) {
	for i, e := range m.all {
		if e.p.At >= from && e.p.At < to && e.place != gone {
			m.all[i].place = place
		}
	}
}

// flush up to a now that is small: it goes through every stretch there is.
func (m *model) flush(now int) (int, error) {
	var err error
	made := 0
	for from := 0; from+m.span <= now && err == nil; from += m.span {
		rows := m.rows(from, from+m.span-1, inHead)
		for _, r := range rows {
			if len(r.Points) > api.MaxPoints {
				err = api.ErrFull
			}
		}
		if len(rows) > 0 && err == nil {
			m.blocks = append(m.blocks, [2]int{from, from + m.span})
			m.move(from, from+m.span, inBlock)
			made++
		}
	}
	for len(m.blocks) > m.keep {
		m.move(m.blocks[0][0], m.blocks[0][1], gone)
		m.blocks = m.blocks[1:]
	}
	wrong := m.disk.Clear()
	for _, r := range m.rows(0, api.MaxTime, inHead) {
		for _, p := range r.Points {
			if wrong == nil {
				wrong = wal.Append(m.disk, r.Series, p)
			}
		}
	}
	if err == nil {
		err = wrong
	}
	if err != nil {
		return 0, err
	}
	return made, nil
}

func (m *model) compact() bool {
	for i := range m.blocks {
		if i == 0 || m.blocks[i-1][1] != m.blocks[i][0] || m.blocks[i][1]-m.blocks[i-1][0] > api.MaxSpan {
			continue
		}
		from, end, fit := m.blocks[i-1][0], m.blocks[i][1], true
		for _, r := range m.rows(from, end-1, inBlock) {
			fit = fit && len(r.Points) <= api.MaxPoints
		}
		if fit {
			m.blocks = slices.Replace(m.blocks, i-1, i+1, [2]int{from, end})
			return true
		}
	}
	return false
}

// made blocks, as block makes them of the model's points.
func (m *model) made(t *testing.T) []block.Block {
	t.Helper()
	var l []block.Block
	for _, x := range m.blocks {
		b, err := block.Make(x[0], x[1]-x[0], m.rows(x[0], x[1]-1, inBlock))
		if err != nil {
			t.Fatal(err)
		}
		l = append(l, b)
	}
	return l
}

// hold a store against its model.
func hold(t *testing.T, s *Store, d *wal.Disk, m *model, from, to int) {
	t.Helper()
	if d.Bytes() != m.disk.Bytes() || d.Power() != m.disk.Power() {
		t.Fatalf("%v %q; not %v %q", d.Power(), d.Bytes(), m.disk.Power(), m.disk.Bytes())
	}
	if l, want := s.Blocks(), m.made(t); !reflect.DeepEqual(l, want) {
		t.Fatal(l, want)
	}
	for _, c := range [][2]int{{math.MinInt, math.MaxInt}, {from, to}} {
		l, err := s.Select(nil, c[0], c[1])
		if want := m.rows(c[0], c[1], inHead, inBlock); !slices.EqualFunc(l, want, sameRow) || err != nil {
			t.Fatal(c, l, err, want)
		}
	}
}

// step of a script: three bytes, done to a store and to its model. now goes on; what is told is the store as it is then.
func step(t *testing.T, s *Store, d *wal.Disk, m *model, now *int, b []byte) *Store {
	t.Helper()
	x, y := int(b[1]), int(b[2])
	switch b[0] % 16 {
	case 11, 12:
		was, before := all(t, s), len(m.blocks)
		n, err := s.Flush(*now + y - 128)
		if want, wrong := m.flush(*now + y - 128); n != want || !isThat(err, wrong) {
			t.Fatal(n, err, want, wrong)
		}
		if err == nil && before+n == len(m.blocks) && !slices.EqualFunc(was, all(t, s), sameRow) {
			t.Fatal(was, all(t, s))
		}
	case 13:
		was := all(t, s)
		is, err := s.Compact()
		if is != m.compact() || err != nil || !slices.EqualFunc(was, all(t, s), sameRow) {
			t.Fatal(is, err, was, all(t, s))
		}
	case 14:
		if x%4 == 0 && d.Cut(y) != m.disk.Cut(y) {
			t.Fatal("cut")
		}
	case 15:
		if x%4 == 0 {
			m.open()
			return opened(t, d, m.span, m.keep)
		}
		d.On()
		m.disk.On()
	default:
		series := []string{"n=a", "n=b", "m=x,n=a", "n=c", "n-=a"}[x%5]
		if x > 250 {
			series = []string{"n", "n=A", "n=b,m=a", "", "n=a,"}[x%5]
		}
		*now += y % 7
		p := api.Point{At: *now, Bit: uint64(x) << (y % 57)}
		if y > 230 {
			p.At -= y - 210
		}
		if err, want := s.Add(series, p), m.add(series, p); !isThat(err, want) {
			t.Fatal(series, p, err, want)
		}
	}
	return s
}

// follow a script of bytes.
func follow(t *testing.T, span, keep int, script []byte) {
	d := disk(t, of("n=b", -4, 3, 3, 8), of("n=a", 0))
	m := &model{disk: disk(t, of("n=b", -4, 3, 3, 8), of("n=a", 0)), span: span, keep: keep}
	s := opened(t, d, span, keep)
	m.open()
	now := 5
	for ; len(script) >= 3; script = script[3:] {
		s = step(t, s, d, m, &now, script)
		hold(t, s, d, m, now-int(script[1]), now-int(script[2])/4)
	}
}

// bytesFrom a number, n of them, by a rule.
func bytesFrom(seed uint32, n int) []byte {
	var b []byte
	for range n {
		seed = seed*1664525 + 1013904223
		b = append(b, byte(seed>>24))
	}
	return b
}

func TestAgainstModel(t *testing.T) {
	for seed := range 40 {
		b := bytesFrom(uint32(seed), 900)
		if seed%2 == 0 { // nearly always points, so that stretches grow too full
			for i := 0; i < len(b); i += 3 {
				if b[i]%16 > 10 && i%41 > 0 {
					b[i] = 0
				}
				b[i+1], b[i+2] = b[i+1]%2, b[i+2]%2
			}
		}
		follow(t, []int{10, 1, 200, 37, 400, 50}[seed%6], []int{3, 40, 1, 6}[seed%4], b)
	}
}

func FuzzStore(f *testing.F) {
	f.Add(uint16(10), uint8(3), bytesFrom(1, 90))
	f.Add(uint16(1), uint8(1), []byte{0, 0, 5, 0, 1, 6, 11, 0, 200, 13, 0, 0, 14, 0, 30, 0, 0, 5, 15, 0, 0})
	f.Fuzz(func(t *testing.T, span uint16, keep uint8, b []byte) {
		follow(t, 1+int(span), 1+int(keep)%api.MaxBlocks, b[:min(len(b), 600)])
	})
}

// The same calls make the same store, on a disk that has gone the same way.
func TestSameCallsSameStore(t *testing.T) {
	run := func() string {
		s, d := begun(t, 10, 3, many(30, 7)...)
		add(t, s, many(20, 18)...)
		flush(t, s, 15, 1)
		flush(t, s, 25, 1)
		if is, err := s.Compact(); !is || err != nil {
			t.Fatal(is, err)
		}
		return told(t, s, d)
	}
	was := run()
	for range 20 {
		if run() != was {
			t.Fatal("another one")
		}
	}
}
