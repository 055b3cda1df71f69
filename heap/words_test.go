package heap_test

import (
	"slices"

	"besom/api"
	"besom/sample"
)

// This file follows the chapter's words, without the package and without the layers below it.

var same = sample.SameHeaps

// thing is a slot and what is in it.
type thing struct {
	addr      uint64
	words     int
	at, slot  int
	allocated bool
	marked    bool
	current   bool
	shape     api.Shape
}

func bit(b api.Bits, i int) bool {
	return b.W[i/64]>>(i%64)&1 == 1
}

func put(b api.Bits, i int, on bool) {
	b.W[i/64] &^= 1 << (i % 64)
	if on {
		b.W[i/64] |= 1 << (i % 64)
	}
}

// things are all slots of the spans, in ascending order of their addresses.
func things(h api.Heap) []thing {
	var out []thing
	for at, s := range h.Spans {
		n, words := 1, s.Pages*16
		if s.Size > 0 {
			n, words = 16/s.Size, s.Size
		}
		for slot := range n {
			x := thing{addr: uint64(s.First*16 + slot*s.Size), words: words, at: at, slot: slot, allocated: bit(s.Alloc, slot), marked: bit(s.Mark, slot)}
			x.current = x.allocated && (s.Swept || x.marked)
			if x.allocated {
				w := h.Arena.Words[x.addr]
				x.shape = api.Shape{N: int(w & 0xff), Mask: w << 8 >> 16}
			}
			out = append(out, x)
		}
	}
	return out
}

// lives are the current objects.
func lives(h api.Heap) map[uint64]thing {
	out := map[uint64]thing{}
	for _, x := range things(h) {
		if x.current {
			out[x.addr] = x
		}
	}
	return out
}

func isRef(s api.Shape, field int) bool {
	return s.Mask>>field&1 == 1
}

// place returns the Size and the number of pages that objects of so many fields need.
func place(n int) (size, pages int) {
	for _, size := range []int{2, 4, 8, 16} {
		if n+1 <= size {
			return size, 1
		}
	}
	return 0, (n + 16) / 16
}

func validShape(s api.Shape) bool {
	return s.N >= 0 && s.N <= 48 && s.Mask>>s.N == 0
}

func validBits(b api.Bits, most int) bool {
	if b.N < 0 || b.N > most || len(b.W) != (b.N+63)/64 {
		return false
	}
	for i := b.N; i < 64*len(b.W); i++ {
		if bit(b, i) {
			return false
		}
	}
	return true
}

func validSpans(l []api.Span) bool {
	end := 0
	for _, s := range l {
		n := map[int]int{0: 1, 2: 8, 4: 4, 8: 2, 16: 1}[s.Size]
		if n == 0 || s.First < end || s.First > 1024 || s.Alloc.N != n || s.Mark.N != n || !validBits(s.Alloc, n) || !validBits(s.Mark, n) {
			return false
		}
		if s.Size > 0 && s.Pages != 1 || s.Size == 0 && (s.Pages < 2 || s.Pages > 4) {
			return false
		}
		for i := range n {
			if bit(s.Mark, i) && !bit(s.Alloc, i) {
				return false
			}
		}
		end = s.First + s.Pages
	}
	return end <= 1024 && len(l) <= 256
}

// valid reports whether a heap is valid.
func valid(h api.Heap) bool {
	if !validBits(h.Pages.Used, 4096) || !validSpans(h.Spans) {
		return false
	}
	n, words := h.Pages.Used.N, h.Arena.Words
	if n == 0 || n > 1024 || len(words) != 16*n || !bit(h.Pages.Used, 0) {
		return false
	}
	owner := make([]int, n)
	for i, s := range h.Spans {
		for page := s.First; page < s.First+s.Pages; page++ {
			if page == 0 || page >= n {
				return false
			}
			owner[page] = i + 1
		}
	}
	for page := 1; page < n; page++ {
		if bit(h.Pages.Used, page) != (owner[page] > 0) {
			return false
		}
	}
	return validWords(h)
}

// validWords is for heaps whose parts are valid and belong together.
func validWords(h api.Heap) bool {
	free := slices.Repeat([]bool{true}, len(h.Arena.Words))
	for _, x := range things(h) {
		if !x.allocated {
			continue
		}
		s := h.Spans[x.at]
		size, pages := place(x.shape.N)
		if h.Arena.Words[x.addr]>>56 != 0xa5 || !validShape(x.shape) || size != s.Size || pages != s.Pages {
			return false
		}
		for i := range x.shape.N + 1 {
			free[x.addr+uint64(i)] = false
		}
	}
	for i, w := range h.Arena.Words {
		if free[i] && w != 0 {
			return false
		}
	}
	live := lives(h)
	for _, x := range live {
		for i := range x.shape.N {
			w := h.Arena.Words[x.addr+1+uint64(i)]
			if _, ok := live[w]; isRef(x.shape, i) && w != 0 && !ok {
				return false
			}
		}
	}
	return true
}

// addressError is that of the functions that take an address.
func addressError(h api.Heap, addr uint64) api.Errno {
	if addr == 0 {
		return api.ErrNil
	}
	if _, ok := lives(h)[addr]; !ok {
		return api.ErrDead
	}
	return api.OK
}

// added is what New answers.
func added(h api.Heap, s api.Shape, black bool) (api.Heap, uint64, api.Errno) {
	if !validShape(s) {
		return h, 0, api.ErrForm
	}
	h = sample.CopyHeap(h)
	size, pages := place(s.N)
	for _, x := range things(h) {
		if size > 0 && h.Spans[x.at].Size == size && h.Spans[x.at].Swept && !x.allocated {
			return filled(h, x, s, black), x.addr, api.OK
		}
	}
	first := firstFit(h, pages)
	if first < 0 || len(h.Spans) == 256 {
		return h, 0, api.ErrFull
	}
	for page := first; page < first+pages; page++ {
		put(h.Pages.Used, page, true)
	}
	h.Spans = append(h.Spans, sample.Span(first, pages, size, 0, 0))
	slices.SortFunc(h.Spans, func(a, b api.Span) int { return a.First - b.First })
	for _, x := range things(h) {
		if x.addr == uint64(16*first) {
			return filled(h, x, s, black), x.addr, api.OK
		}
	}
	panic("the new span has no slot")
}

// filled puts an object into a slot of h.
func filled(h api.Heap, x thing, s api.Shape, black bool) api.Heap {
	put(h.Spans[x.at].Alloc, x.slot, true)
	put(h.Spans[x.at].Mark, x.slot, black)
	h.Arena.Words[x.addr] = sample.Header(s.N, s.Mask)
	return h
}

// firstFit returns the first of so many consecutive free pages, or -1.
func firstFit(h api.Heap, pages int) int {
	for first := range h.Pages.Used.N - pages + 1 {
		free := 0
		for free < pages && !bit(h.Pages.Used, first+free) {
			free++
		}
		if free == pages {
			return first
		}
	}
	return -1
}

// storeError is what Store answers.
func storeError(h api.Heap, addr uint64, field int, w uint64, ref bool) api.Errno {
	if why := addressError(h, addr); why != api.OK {
		return why
	}
	s := lives(h)[addr].shape
	switch {
	case field < 0 || field >= s.N:
		return api.ErrField
	case isRef(s, field) != ref:
		return api.ErrType
	case ref && w != 0 && addressError(h, w) != api.OK:
		return api.ErrDead
	}
	return api.OK
}

func sweptAll(h api.Heap) bool {
	return !slices.ContainsFunc(h.Spans, func(s api.Span) bool { return !s.Swept })
}

// turned is what Turn answers.
func turned(h api.Heap) (api.Heap, api.Errno) {
	if !sweptAll(h) {
		return h, api.ErrState
	}
	live := lives(h)
	for _, x := range live {
		for i := range x.shape.N {
			w := h.Arena.Words[x.addr+1+uint64(i)]
			if x.marked && isRef(x.shape, i) && w != 0 && !live[w].marked {
				return h, api.ErrState
			}
		}
	}
	h = sample.CopyHeap(h)
	for i := range h.Spans {
		h.Spans[i].Swept = false
	}
	return h, api.OK
}

// cleaned is what Clean answers.
func cleaned(h api.Heap, first int) (api.Heap, []uint64, api.Errno) {
	at := slices.IndexFunc(h.Spans, func(s api.Span) bool { return s.First == first })
	if at < 0 {
		return h, nil, api.ErrNone
	}
	if h.Spans[at].Swept {
		return h, nil, api.ErrState
	}
	h = sample.CopyHeap(h)
	s := &h.Spans[at]
	s.Swept = true
	var freed []uint64
	left := 0
	for _, x := range things(h) {
		switch {
		case x.at != at || !x.allocated:
		case x.marked:
			left++
		default:
			freed = append(freed, x.addr)
			put(s.Alloc, x.slot, false)
			clear(h.Arena.Words[x.addr:][:x.words])
		}
	}
	if left == 0 {
		for page := first; page < first+s.Pages; page++ {
			put(h.Pages.Used, page, false)
		}
		h.Spans = slices.Delete(h.Spans, at, at+1)
	}
	return h, freed, api.OK
}
