package dump

import (
	"slices"
	"strconv"
	"strings"

	"besom/api"
	"besom/plain"
)

// A line consists of words with single blanks between them, and a line feed behind it.
const (
	blank    = " "
	lineFeed = "\n"
)

// The first words of lines.
const (
	heapName   = "heap"
	spanName   = "span"
	objectName = "object"
)

// The words that tell whether a span is Swept, and whether an object is marked.
const (
	swept = "swept"
	old   = "old"

	black = "black"
	white = "white"
)

// The line of a span or an object has so many numbers before the word that tells how it is.
const numbersAhead = 3

// entry is what the line of a span or an object tells.
type entry struct {
	ahead []uint64
	// is is what the word behind these numbers tells.
	is   bool
	rest []uint64
}

// line returns the line that begins with a name, and in which yes stands if the entry is what that tells, and no otherwise.
func (e entry) line(name, yes, no string) string {
	word := no
	if e.is {
		word = yes
	}
	words := slices.Concat([]string{name}, digits(e.ahead...), []string{word}, digits(e.rest...))
	return strings.Join(words, blank)
}

// entryOf returns what the words behind the name of such a line tell.
func entryOf(words []string, yes, no string) (entry, bool) {
	if len(words) <= numbersAhead {
		return entry{}, false
	}
	word := words[numbersAhead]
	l, ok := numbers(slices.Concat(words[:numbersAhead], words[numbersAhead+1:])...)
	if !ok || word != yes && word != no {
		return entry{}, false
	}
	return entry{l[:numbersAhead], word == yes, l[numbersAhead:]}, true
}

// digits returns the words that tell numbers.
func digits(l ...uint64) []string {
	var words []string
	for _, n := range l {
		words = append(words, strconv.FormatUint(n, 10))
	}
	return words
}

// numbers returns the numbers that words tell.
func numbers(words ...string) ([]uint64, bool) {
	var l []uint64
	for _, word := range words {
		n, ok := plain.Number(word)
		if !ok {
			return nil, false
		}
		l = append(l, n)
	}
	return l, true
}

// whole returns a number of pages, of words of a slot or of fields. One that is greater than the words of an arena is too great, whatever it is.
func whole(n uint64) int {
	return int(min(n, api.MaxWords))
}
