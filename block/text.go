package block

import (
	"strconv"
	"strings"

	"tidegauge/api"
	"tidegauge/hex"
)

// What a text begins with, and what stands between words and behind lines.
const (
	begin = "block"
	blank = " "
	end   = "\n"
)

// longestNumber in a text, in bytes: few enough that an int holds it.
const longestNumber = 15

// Text of a block.
func Text(b Block) (string, error) {
	if err := Check(b); err != nil {
		return "", err
	}
	var s strings.Builder
	s.WriteString(begin + blank + strconv.Itoa(b.From) + blank + strconv.Itoa(b.Span) + blank + strconv.Itoa(len(b.Series)) + end)
	for i, series := range b.Series {
		s.WriteString(series + blank + hex.Digits(b.Chunks[i]) + end)
	}
	return s.String(), nil
}

// Read a block.
func Read(s string) (Block, error) {
	if len(s) > api.MaxText {
		return Block{}, api.ErrBound
	}
	b, right := parsed(s)
	if !right {
		return Block{}, api.ErrText
	}
	if err := Check(b); err != nil {
		return Block{}, err
	}
	return b, nil
}

// parsed text, which may still be of a block that is not well; false: the text has not its form.
func parsed(s string) (Block, bool) {
	line, rest, found := strings.Cut(s, end)
	if !found {
		return Block{}, false
	}
	b, count, right := parsedHead(line)
	if !right {
		return Block{}, false
	}
	for rest != "" {
		line, rest, found = strings.Cut(rest, end)
		series, packed, right := parsedSeries(line)
		if !found || !right {
			return Block{}, false
		}
		b.Series, b.Chunks = append(b.Series, series), append(b.Chunks, packed)
	}
	return b, count == len(b.Series)
}

// parsedHead is a block without its series, and how many there shall be.
func parsedHead(line string) (Block, int, bool) {
	words := strings.Split(line, blank)
	if len(words) != 4 || words[0] != begin {
		return Block{}, 0, false
	}
	var numbers [3]int
	for i, w := range words[1:] {
		n, right := number(w)
		if !right {
			return Block{}, 0, false
		}
		numbers[i] = n
	}
	return Block{From: numbers[0], Span: numbers[1]}, numbers[2], true
}

// number that a word tells. Only the same word again is just so: a sign or zeros that are not needed can be read as well.
func number(word string) (int, bool) {
	n, err := strconv.Atoi(word)
	return n, err == nil && len(word) <= longestNumber && strconv.Itoa(n) == word
}

// parsedSeries is a series' text and its chunk.
func parsedSeries(line string) (string, string, bool) {
	series, twice, found := strings.Cut(line, blank)
	packed, right := hex.Bytes(twice)
	return series, packed, found && right
}
