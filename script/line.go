package script

import (
	"strconv"
	"strings"

	"tidegauge/api"
	"tidegauge/label"
)

const blank = " "

// longestNumber of a line, in digits.
const longestNumber = 7

// command of a script: what stands behind its name, and what it does.
type command struct {
	labels  bool // first labels
	numbers int  // then so many numbers
	more    bool // and perhaps more of them
	do      func(p *player, w words) (string, error)
}

// words behind a command's name, just as many as it asks for.
type words struct {
	series  string // the labels' text
	labels  []api.Label
	numbers []int
}

// parted line: its first word, and the others. Two blanks have an empty word between, which is no labels and no number.
func parted(line string) (string, []string) {
	l := strings.Split(line, blank)
	return l[0], l[1:]
}

// read what stands behind a command's name; false: it is not what the command asks for.
func (c command) read(l []string) (words, bool) {
	var w words
	if c.labels {
		if len(l) == 0 {
			return words{}, false
		}
		labels, err := label.Read(l[0])
		if err != nil {
			return words{}, false
		}
		w.series, w.labels, l = l[0], labels, l[1:]
	}
	if len(l) < c.numbers || len(l) > c.numbers && !c.more {
		return words{}, false
	}
	numbers, right := readNumbers(l)
	if !right {
		return words{}, false
	}
	w.numbers = numbers
	return w, true
}

// readNumbers of words; false: one of them is none.
func readNumbers(l []string) ([]int, bool) {
	var numbers []int
	for _, word := range l {
		n, right := number(word)
		if !right {
			return nil, false
		}
		numbers = append(numbers, n)
	}
	return numbers, true
}

// number that a word tells. Only the same word again is right: a sign or zeros that are not needed can be read as well.
func number(word string) (int, bool) {
	if len(word) > longestNumber {
		return 0, false
	}
	n, err := strconv.Atoi(word)
	if err != nil || n < 0 || strconv.Itoa(n) != word {
		return 0, false
	}
	return n, true
}
