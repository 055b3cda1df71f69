package plain

import (
	"besom/api"
	"besom/class"
)

// Needs returns the Size and the number of pages of the spans in which objects of a valid shape are.
func Needs(shape api.Shape) (size, count int) {
	words := shape.N + 1
	if c, _ := class.Of(words); c >= 0 {
		size, _ = class.Size(c)
	}
	count, _ = class.Pages(words)
	return size, count
}

// Fits reports whether objects of a valid shape are in spans like s.
func Fits(shape api.Shape, s api.Span) bool {
	size, count := Needs(shape)
	return s.Size == size && s.Pages == count
}

// SlotWords returns the number of words of a slot of a valid span.
func SlotWords(s api.Span) uint64 {
	if s.Size == 0 {
		return uint64(s.Pages * api.PageWords)
	}
	return uint64(s.Size)
}
