package scav_test

import (
	"math"
	"slices"

	"besom/api"
	"besom/heap"
	"besom/sample"
)

// What the chapter's words say, written down once more, page by page, with lists that have one element for each page.

var same = sample.SameScavs

func listOf(b api.Bits) []bool {
	var out []bool
	for i := range b.N {
		out = append(out, b.W[i/64]>>(i%64)&1 == 1)
	}
	return out
}

func number(l []bool) int {
	n := 0
	for _, on := range l {
		if on {
			n++
		}
	}
	return n
}

// validBits reports whether a vector is one of so many bits.
func validBits(b api.Bits, n int) bool {
	if b.N != n || len(b.W) != (n+63)/64 {
		return false
	}
	return sample.SameBits(sample.Pack(listOf(b)), b)
}

// valid reports whether a value is valid whose heap is.
func valid(s api.Scav) bool {
	if !validBits(s.Out, s.Heap.Pages.Used.N) {
		return false
	}
	out := listOf(s.Out)
	for page, used := range listOf(s.Heap.Pages.Used) {
		if used && out[page] {
			return false
		}
	}
	return true
}

// there is what There answers.
func there(s api.Scav) (present, free int) {
	out := listOf(s.Out)
	for page, used := range listOf(s.Heap.Pages.Used) {
		if !out[page] {
			present++
			if !used {
				free++
			}
		}
	}
	return present, free
}

// with returns a copy whose pages are Out as in the list.
func with(s api.Scav, h api.Heap, out []bool) api.Scav {
	s.Heap, s.Out = sample.CopyHeap(h), sample.Pack(out)
	return s
}

// added is what New answers.
func added(s api.Scav, shape api.Shape, black bool) (api.Scav, uint64, api.Errno) {
	h, addr, why := heap.New(s.Heap, shape, black)
	if why != api.OK {
		return s, 0, why
	}
	out := listOf(s.Out)
	for page, used := range listOf(h.Pages.Used) {
		if used && out[page] {
			out[page] = false
			s.Faults++
		}
	}
	return with(s, h, out), addr, api.OK
}

// cleaned is what Clean answers.
func cleaned(s api.Scav, first int) (api.Scav, []uint64, api.Errno) {
	h, freed, why := heap.Clean(s.Heap, first)
	if why != api.OK {
		return s, nil, why
	}
	return with(s, h, listOf(s.Out)), freed, api.OK
}

// released is what Release answers.
func released(s api.Scav, n int) (api.Scav, int, api.Errno) {
	if n < 0 {
		return s, 0, api.ErrRange
	}
	out, used := listOf(s.Out), listOf(s.Heap.Pages.Used)
	var l []int
	for page := range out {
		if !used[page] && !out[page] {
			l = append(l, page)
		}
	}
	for len(l) > n {
		l = l[1:]
	}
	for _, page := range l {
		out[page] = true
		s.Gone++
	}
	return with(s, s.Heap, out), len(l), api.OK
}

// kept is what Keep answers.
func kept(s api.Scav, most int) (api.Scav, int, api.Errno) {
	if most < 0 {
		return s, 0, api.ErrRange
	}
	if present, _ := there(s); present > most {
		return released(s, present-most)
	}
	return released(s, 0)
}

// lengths is what Runs answers: of each length, from the greatest one on, one for each place where a free run of that length is between pages in use or the ends.
func lengths(s api.Scav) []int {
	used := listOf(s.Heap.Pages.Used)
	var out []int
	for n := len(used); n > 0; n-- {
		for first := range len(used) - n + 1 {
			end := first + n
			if number(used[first:end]) == 0 && (first == 0 || used[first-1]) && (end == len(used) || used[end]) {
				out = append(out, n)
			}
		}
	}
	return out
}

// turned are values as they are when the marked objects are the current ones, where that is possible.
func turned(l []api.Scav) []api.Scav {
	var out []api.Scav
	for _, s := range l {
		if h, why := heap.Turn(s.Heap); why == api.OK {
			s.Heap = h
			out = append(out, s)
		}
	}
	return out
}

// scavs are valid values, with spans that are Swept and spans that are not.
func scavs(n int) []api.Scav {
	out := sample.SmallScavs()
	p := sample.Picks(232)
	for i := range n {
		out = append(out, sample.SomeScav(&p, holed(&p, sample.Web(&p, i%14)), 1+i%3))
	}
	return append(out, turned(out)...)
}

// holed is a heap with some more free pages, at its end and where spans without objects were.
func holed(p *sample.Picks, h api.Heap) api.Heap {
	h = sample.CopyHeap(h)
	h.Spans = slices.DeleteFunc(h.Spans, func(s api.Span) bool {
		none := s.Alloc.W[0] == 0
		for page := s.First; none && page < s.First+s.Pages; page++ {
			h.Pages.Used.W[page/64] &^= 1 << (page % 64)
		}
		return none
	})
	used := listOf(h.Pages.Used)
	used = append(used, make([]bool, p.Below(5))...)
	h.Pages.Used = sample.Pack(used)
	h.Arena.Words = append(h.Arena.Words, make([]uint64, 16*len(used)-len(h.Arena.Words))...)
	return h
}

// shapes are shapes of objects of all sizes, and some that are none.
func shapes() []api.Shape {
	return []api.Shape{
		{}, {N: 1, Mask: 1}, {N: 2}, {N: 3, Mask: 7}, {N: 4}, {N: 7, Mask: 65}, {N: 8, Mask: 1}, {N: 15, Mask: 1<<15 - 1},
		{N: 16}, {N: 31, Mask: 1 << 30}, {N: 32}, {N: 47}, {N: 48, Mask: 1<<48 - 1},
		{N: -1}, {N: 49}, {N: 2, Mask: 4}, {Mask: 1}, {N: 1 << 32}, {N: 48, Mask: 1 << 48}, {N: math.MinInt}, {N: math.MaxInt},
	}
}

// pageNumbers are numbers of pages that there may be, and numbers that are none.
func pageNumbers() []int {
	return append(sample.Ints(), 0, 1, 2, 3, 4, 5, 6, 7, 8, 9, 10, 11, 12, 13, 15, 16, 17, 20, 30, 64, 255, 256, 300, 1023, 1024, 1025, 4096, 1<<32+1)
}
