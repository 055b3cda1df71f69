package plain

import "strconv"

// Number returns the number that a word of a text tells.
func Number(word string) (uint64, bool) {
	n, err := strconv.ParseUint(word, 10, 64)
	// A number is written in one way only: without a sign, and without superfluous zeros.
	if err != nil || strconv.FormatUint(n, 10) != word {
		return 0, false
	}
	return n, true
}
