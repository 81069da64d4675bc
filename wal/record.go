package wal

import (
	"strconv"
	"strings"

	"tidegauge/api"
	"tidegauge/chunk"
	"tidegauge/label"
)

// What stands between a series' text and a tick, and between the tick and its value. The first is in no series' text.
const (
	ahead  = "@"
	behind = "="
)

const (
	lengthBytes = 2
	valueDigits = 16
)

// check tells why a point is none that a record may have.
func check(series string, p api.Point) error {
	if _, err := label.Read(series); err != nil {
		return err
	}
	if p.At < -api.MaxTime || p.At > api.MaxTime {
		return api.ErrBound
	}
	return nil
}

// record of a point: its length has the highest byte first, its sum the lowest.
func record(series string, p api.Point) string {
	body := series + ahead + strconv.Itoa(p.At) + behind + digits(p.Bit)
	n, sum := len(body), chunk.Sum(body)
	length := string([]byte{byte(n >> 8), byte(n)})
	return length + body + string([]byte{byte(sum), byte(sum >> 8), byte(sum >> 16), byte(sum >> 24)})
}

// digits of a value, as many for every one.
func digits(value uint64) string {
	s := strconv.FormatUint(value, 16)
	return strings.Repeat("0", valueDigits-len(s)) + s
}

// first record of a log, and how many bytes it has; false: there is none that is whole and right.
func first(b string) (Entry, int, bool) {
	body, found := firstBody(b)
	if !found {
		return Entry{}, 0, false
	}
	e, right := entry(body)
	if !right || check(e.Series, e.P) != nil {
		return Entry{}, 0, false
	}
	// Only the same bytes again are just what Append writes: numbers have other forms that can be read, and the sum is held here as well.
	r := record(e.Series, e.P)
	if !strings.HasPrefix(b, r) {
		return Entry{}, 0, false
	}
	return e, len(r), true
}

// firstBody of a log, as long as its first bytes say; false: not all of it is there.
func firstBody(b string) (string, bool) {
	if len(b) < lengthBytes {
		return "", false
	}
	end := lengthBytes + int(b[0])<<8 + int(b[1])
	if len(b) < end {
		return "", false
	}
	return b[lengthBytes:end], true
}

// entry that a body tells; false: it tells none.
func entry(body string) (Entry, bool) {
	series, point, _ := strings.Cut(body, ahead)
	tick, value, _ := strings.Cut(point, behind)
	at, err := strconv.Atoi(tick)
	if err != nil {
		return Entry{}, false
	}
	bit, err := strconv.ParseUint(value, 16, 64)
	if err != nil {
		return Entry{}, false
	}
	return Entry{Series: series, P: api.Point{At: at, Bit: bit}}, true
}
