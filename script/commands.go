package script

import (
	"strconv"
	"strings"

	"tidegauge/api"
	"tidegauge/chunk"
	"tidegauge/hex"
	"tidegauge/sums"
)

// Answers that tell nothing else.
const (
	ok      = "ok"
	joined  = "joined"
	nothing = "nothing"
)

// commands by their names.
func commands() map[string]command {
	return map[string]command{
		"add":     {labels: true, numbers: 2, do: add},
		"flush":   {numbers: 1, do: flush},
		"compact": {do: compact},
		"cut":     {numbers: 1, do: cut},
		"boot":    {do: boot},
		"get":     {labels: true, numbers: 2, do: get},
		"sum":     {labels: true, numbers: 2, do: sum},
		"blocks":  {do: blocks},
		"chunk":   {numbers: 1, more: true, do: encode},
	}
}

func add(p *player, w words) (string, error) {
	return done(p.S.Add(w.series, api.Point{At: w.numbers[0], Bit: uint64(w.numbers[1])}))
}

func flush(p *player, w words) (string, error) {
	n, err := p.S.Flush(w.numbers[0])
	if err != nil {
		return "", err
	}
	return strconv.Itoa(n), nil
}

func compact(p *player, _ words) (string, error) {
	is, err := p.S.Compact()
	if err != nil {
		return "", err
	}
	if !is {
		return nothing, nil
	}
	return joined, nil
}

func cut(p *player, w words) (string, error) {
	return done(p.D.Cut(w.numbers[0]))
}

func boot(p *player, _ words) (string, error) {
	return done(p.Boot())
}

func get(p *player, w words) (string, error) {
	rows, err := p.selected(w)
	if err != nil {
		return "", err
	}
	var l []string
	for _, r := range rows {
		l = append(l, rowText(r))
	}
	return listed(l, "; "), nil
}

func sum(p *player, w words) (string, error) {
	rows, err := p.selected(w)
	if err != nil {
		return "", err
	}
	return sumText(sums.Total(rows)), nil
}

func blocks(p *player, _ words) (string, error) {
	var l []string
	for _, b := range p.S.Blocks() {
		l = append(l, strconv.Itoa(b.From)+"+"+strconv.Itoa(b.Span))
	}
	return listed(l, blank), nil
}

// encode ticks, and as values their places.
func encode(_ *player, w words) (string, error) {
	var l []api.Point
	for i, tick := range w.numbers {
		l = append(l, api.Point{At: tick, Bit: uint64(i)})
	}
	s, err := chunk.Encode(l)
	if err != nil {
		return "", err
	}
	return hex.Digits(s), nil
}

// done is the answer of what tells nothing but an error.
func done(err error) (string, error) {
	if err != nil {
		return "", err
	}
	return ok, nil
}

// selected rows: of the series that have all labels of a line, between its ticks.
func (p *player) selected(w words) ([]api.Row, error) {
	var m []api.Match
	for _, l := range w.labels {
		m = append(m, api.Match{Kind: '=', Label: l})
	}
	return p.S.Select(m, w.numbers[0], w.numbers[1])
}

func rowText(r api.Row) string {
	var s strings.Builder
	s.WriteString(r.Series)
	for _, p := range r.Points {
		s.WriteString(blank + strconv.Itoa(p.At) + ":" + strconv.FormatUint(p.Bit, 10))
	}
	return s.String()
}

func sumText(s sums.Sum) string {
	text := strconv.Itoa(s.Count)
	for _, v := range []uint64{s.Least, s.Most, s.Last, s.Total} {
		text += blank + strconv.FormatUint(v, 10)
	}
	return text
}

// listed texts, or a word that there are none.
func listed(l []string, between string) string {
	if len(l) == 0 {
		return nothing
	}
	return strings.Join(l, between)
}
