package sample

import (
	"math"
	"slices"

	"besom/api"
)

// Span returns a span that is Swept, of whose slots those are allocated whose bits are 1 in alloc, and those marked whose bits are 1 in mark. It does not ask whether such a span is valid.
func Span(first, pages, size int, alloc, mark uint64) api.Span {
	n := 1
	if size > 0 {
		n = 16 / size
	}
	bits := func(w uint64) api.Bits {
		b := Pack(make([]bool, n))
		if n > 0 {
			b.W[0] = w
		}
		return b
	}
	return api.Span{First: first, Pages: pages, Size: size, Alloc: bits(alloc), Mark: bits(mark), Swept: true}
}

// Unswept returns a copy of s that is not Swept.
func Unswept(s api.Span) api.Span {
	s = CopySpans(s)[0]
	s.Swept = false
	return s
}

// SameSpans reports whether two lists of spans are alike; a nil list is an empty one.
func SameSpans(a, b []api.Span) bool {
	return slices.EqualFunc(a, b, func(s, o api.Span) bool {
		return s.First == o.First && s.Pages == o.Pages && s.Size == o.Size && s.Swept == o.Swept &&
			SameBits(s.Alloc, o.Alloc) && SameBits(s.Mark, o.Mark)
	})
}

// CopySpans returns the spans with words of their own.
func CopySpans(l ...api.Span) []api.Span {
	var out []api.Span
	for _, s := range l {
		s.Alloc.W = slices.Clone(s.Alloc.W)
		s.Mark.W = slices.Clone(s.Mark.W)
		out = append(out, s)
	}
	return out
}

// BadSpans returns spans that are not valid, each for a reason of its own.
func BadSpans() []api.Span {
	bad := []api.Span{{}, {Swept: true}, {Pages: 1, Size: 4}, {First: 1, Pages: 2}}
	for _, first := range []int{-1, 1024, 1025, 1 << 32, math.MinInt, math.MaxInt} {
		bad = append(bad, Span(first, 1, 2, 0, 0), Span(first, 2, 0, 0, 0))
	}
	bad = append(bad, Span(1023, 2, 0, 0, 0), Span(1022, 3, 0, 1, 0), Span(1021, 4, 0, 1, 1))
	for _, pages := range []int{-1, 0, 2, 3, 4, 16, math.MinInt, math.MaxInt, 1<<32 + 1} {
		for _, size := range []int{2, 4, 8, 16} {
			bad = append(bad, Span(3, pages, size, 0, 0))
		}
	}
	for _, pages := range []int{-2, -1, 0, 1, 5, 1024, math.MinInt, math.MaxInt, 1<<32 + 2} {
		bad = append(bad, Span(3, pages, 0, 0, 0))
	}
	for _, size := range []int{1, 3, 5, 6, 7, 9, 12, 15, 17, 32, -1, -2, -4, -16, math.MinInt, math.MaxInt, 1<<32 + 4} {
		bad = append(bad, Span(3, 1, size, 0, 0), Span(3, 2, size, 0, 0))
	}
	return append(bad, badSlots()...)
}

// badSlots are spans that are not valid by their bits alone.
func badSlots() []api.Span {
	var bad []api.Span
	four := []api.Bits{{N: 4}, {N: 4, W: []uint64{1, 0}}, {N: 4, W: []uint64{1, 1}}, {N: 4, W: []uint64{17}}, {N: 4, W: []uint64{1 << 63}}}
	for _, b := range append(BadBits(), four...) {
		alloc, mark, both := Span(3, 1, 4, 0, 0), Span(3, 1, 4, 15, 0), Span(3, 1, 4, 0, 0)
		alloc.Alloc, mark.Mark, both.Alloc, both.Mark = b, b, b, b
		bad = append(bad, alloc, mark, both)
	}
	for _, n := range []int{0, 1, 3, 5, 8, 64, 65, 4096} {
		b := Pack(make([]bool, n))
		alloc, mark, both := Span(3, 1, 4, 0, 0), Span(3, 1, 4, 0, 0), Span(3, 1, 4, 0, 0)
		alloc.Alloc, mark.Mark, both.Alloc, both.Mark = b, b, b, b
		bad = append(bad, alloc, mark, both)
	}
	// What is marked is not allocated.
	return append(bad,
		Span(3, 2, 0, 0, 1), Span(3, 1, 16, 0, 1), Span(3, 1, 8, 1, 2), Span(3, 1, 8, 1, 3),
		Span(3, 1, 4, 2, 3), Span(3, 1, 4, 7, 8), Span(3, 1, 2, 127, 255), Span(3, 1, 2, 0, 1))
}
