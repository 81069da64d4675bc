package script

import (
	"errors"
	"fmt"
	"regexp"
	"slices"
	"strconv"
	"strings"
	"testing"

	"tidegauge/api"
	"tidegauge/chunk"
	"tidegauge/label"
	"tidegauge/store"
	"tidegauge/sums"
	"tidegauge/wal"
)

// Scripts against a second reading of the chapter: lines by one pattern, and calls of a store and a disk of its own.

var pattern = regexp.MustCompile(strings.ReplaceAll(`\A(?:(add|get|sum) ([^ ]+) (N) (N)|(flush|cut) (N)|(compact|boot|blocks)|(chunk)((?: N)+))\z`, "N", "(?:0|[1-9][0-9]{0,6})"))

type model struct {
	disk  *wal.Disk
	store *store.Store
}

func newModel(t *testing.T) *model {
	t.Helper()
	d, err := wal.NewDisk("")
	if err != nil {
		t.Fatal(err)
	}
	m := &model{disk: d}
	if err := m.boot(); err != nil {
		t.Fatal(err)
	}
	return m
}

func (m *model) boot() error {
	var err error
	m.store, err = store.New(m.disk, 50, 6)
	return err
}

func (m *model) answer(t *testing.T, line string) string {
	t.Helper()
	x := pattern.FindStringSubmatch(line)
	if x == nil {
		return "tidegauge: text"
	}
	s, err := m.do(t, x)
	if err == nil {
		return s
	}
	for _, e := range []error{api.ErrText, api.ErrBound, api.ErrFull, api.ErrOld, api.ErrOff} {
		if errors.Is(err, e) {
			return e.Error()
		}
	}
	t.Fatal(line, err)
	return ""
}

// do a line, by the parts of its pattern.
func (m *model) do(t *testing.T, x []string) (string, error) {
	t.Helper()
	switch x[1] + x[5] + x[7] + x[8] {
	case "flush":
		n, err := m.store.Flush(whole(t, x[6]))
		return fmt.Sprint(n), err
	case "cut":
		return "ok", m.disk.Cut(whole(t, x[6]))
	case "boot":
		return "ok", m.boot()
	case "compact":
		is, err := m.store.Compact()
		return map[bool]string{true: "joined", false: "nothing"}[is], err
	case "blocks":
		s := ""
		for _, b := range m.store.Blocks() {
			s += fmt.Sprintf(" %d+%d", b.From, b.Span)
		}
		return orNothing(s, " "), nil
	case "chunk":
		var l []api.Point
		for i, s := range strings.Fields(x[9]) {
			l = append(l, api.Point{At: whole(t, s), Bit: uint64(i)})
		}
		s, err := chunk.Encode(l)
		return fmt.Sprintf("%x", s), err
	}
	l, err := label.Read(x[2])
	if err != nil {
		return "", api.ErrText
	}
	return m.ofSeries(t, x[1], l, whole(t, x[3]), whole(t, x[4]))
}

// ofSeries are add, get and sum.
func (m *model) ofSeries(t *testing.T, command string, l []api.Label, a, b int) (string, error) {
	t.Helper()
	if command == "add" {
		s, err := label.Text(l)
		if err != nil {
			t.Fatal(err)
		}
		return "ok", m.store.Add(s, api.Point{At: a, Bit: uint64(b)})
	}
	// All points there are, and those that fit picked out of them.
	rows, err := m.store.Select(nil, a, b)
	if err != nil {
		t.Fatal(err)
	}
	var all []api.Point
	s := ""
	for _, r := range rows {
		has, err := label.Read(r.Series)
		if err != nil {
			t.Fatal(err)
		}
		if slices.ContainsFunc(l, func(x api.Label) bool { return !slices.Contains(has, x) }) {
			continue
		}
		all = append(all, r.Points...)
		s += "; " + r.Series
		for _, p := range r.Points {
			s += fmt.Sprintf(" %d:%d", p.At, p.Bit)
		}
	}
	if command == "get" {
		return orNothing(s, "; "), nil
	}
	of := sums.Of(all)
	return fmt.Sprint(of.Count, of.Least, of.Most, of.Last, of.Total), nil
}

func orNothing(s, between string) string {
	if s == "" {
		return "nothing"
	}
	return strings.TrimPrefix(s, between)
}

func whole(t *testing.T, s string) int {
	t.Helper()
	n, err := strconv.Atoi(s)
	if err != nil {
		t.Fatal(err)
	}
	return n
}

// follow lines by both.
func follow(t *testing.T, lines []string) []string {
	t.Helper()
	m := newModel(t)
	l := told(t, lines)
	for i, line := range lines {
		if want := m.answer(t, line); l[i] != want {
			t.Fatalf("%d of %q: %q, not %q", i, lines[:i+1], l[i], want)
		}
	}
	return l
}

// made lines, by a fixed rule; now goes on, so that most points are new ones.
func made(seed uint64, n int) []string {
	next := func(below int) int {
		seed = seed*6364136223846793005 + 1442695040888963407
		return int(seed >> 33 % uint64(below))
	}
	labels := []string{"n=a", "n=b", "m=x,n=a", "m=x,n=b", "m=x", "m=y,n=a,o=z", "n=A"}
	now := 0
	var l []string
	for range n {
		series := labels[next(len(labels))]
		switch next(16) {
		default:
			now += next(30) - next(5)
			l = append(l, fmt.Sprint("add ", series, " ", now, " ", next(1000)))
		case 0, 1:
			l = append(l, fmt.Sprint("flush ", now))
		case 2:
			l = append(l, []string{"compact", "blocks"}[next(2)])
		case 3:
			l = append(l, fmt.Sprint("cut ", next(200)))
		case 4:
			l = append(l, []string{"boot", "blocks", "compact"}[next(3)])
		case 5, 6:
			l = append(l, fmt.Sprint("get ", series, " ", next(now+100), " ", next(2*now+100)))
		case 7:
			l = append(l, fmt.Sprint("sum ", series, " ", next(now+100), " ", next(2*now+100)))
		case 8:
			l = append(l, fmt.Sprint("chunk ", next(9), " ", next(99), " ", next(9999999)))
		}
	}
	return l
}

func TestAgainstModel(t *testing.T) {
	seen := map[string]int{}
	for seed := range uint64(200) {
		for _, s := range follow(t, made(seed, api.MaxLines)) {
			seen[s]++
		}
	}
	// The rule comes to all of these, or it would try little.
	for _, s := range []string{"ok", "nothing", "joined", "0", "1", "2", "0+50", "0+50 50+50", "0 0 0 0 0", "tidegauge: text", "tidegauge: old", "tidegauge: off"} {
		if seen[s] == 0 {
			t.Error(s)
		}
	}
	for part := range slices.Chunk(wrong(), api.MaxLines) {
		follow(t, part)
	}
}

// P132.

func TestSameLinesSameAnswers(t *testing.T) {
	for seed := range uint64(30) {
		lines := made(seed, api.MaxLines)
		was := told(t, lines)
		for range 3 {
			// Other scripts between change nothing.
			told(t, made(seed+99, 30))
			if l := told(t, slices.Clone(lines)); !slices.Equal(l, was) {
				t.Fatal(seed, l, was)
			}
		}
		// Nor do lines that come later.
		if l := told(t, lines[:40]); !slices.Equal(l, was[:40]) {
			t.Fatal(seed, l, was)
		}
	}
}

func FuzzRun(f *testing.F) {
	f.Add("add n=a 3 7\nadd m=x,n=a 40 9\nget n=a 0 99\nsum n=a 0 99\nflush 50\nblocks")
	f.Add("cut 3\nadd n=a 1 1\nboot\ncompact\nchunk 5 6\nchunk 5 5\nadd  n=a 1 1\nflush 01")
	f.Fuzz(func(t *testing.T, s string) {
		lines := strings.Split(s, "\n")
		follow(t, lines[:min(len(lines), api.MaxLines)])
	})
}
