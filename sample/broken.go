package sample

import (
	"math"
	"slices"

	"besom/api"
)

// Corrupted is the heap of the examples of chapter 29: a at 16 refers to b at 18, of which the first word is wrong, and c is at 32.
func Corrupted() api.Heap {
	h := Heap(5, []api.Span{Span(1, 1, 2, 3, 0), Span(2, 2, 0, 1, 0)},
		Object{Addr: 16, N: 1, Mask: 1, Fields: []uint64{18}}, Object{Addr: 18, N: 1}, Object{Addr: 32, N: 20})
	h.Arena.Words[18], h.Arena.Words[60], h.Arena.Words[30] = 5, 1, 2
	h.Pages.Used.W[0] = 0b11101
	return h
}

// Damaged returns a copy of a valid heap in which so many things are changed as it comes: words, pages in use, slots that are allocated or marked, and spans that are Swept. Its arena, its pages and its spans are valid.
func Damaged(p *Picks, h api.Heap, changes int) api.Heap {
	h = CopyHeap(h)
	for range changes {
		if len(h.Spans) == 0 || p.Below(5) == 0 {
			page := p.Below(h.Pages.Used.N)
			h.Pages.Used.W[page/64] ^= 1 << (page % 64)
			continue
		}
		s := &h.Spans[p.Below(len(h.Spans))]
		slot := p.Below(s.Alloc.N)
		addr := s.First*16 + slot*s.Size
		switch p.Below(6) {
		case 0:
			h.Arena.Words[p.Below(len(h.Arena.Words))] = someNumber(p, h)
		case 1:
			h.Arena.Words[addr] = someNumber(p, h)
		case 2:
			h.Arena.Words[min(addr+1+p.Below(20), len(h.Arena.Words)-1)] = someNumber(p, h)
		case 3:
			s.Alloc.W[0] ^= 1 << slot
			s.Mark.W[0] &= s.Alloc.W[0]
		case 4:
			s.Mark.W[0] ^= 1 << slot & s.Alloc.W[0]
		case 5:
			s.Swept = !s.Swept
		}
	}
	return h
}

// someNumber returns what a word of a heap may have been changed to: 0, a header word, the address of a slot, or any other number.
func someNumber(p *Picks, h api.Heap) uint64 {
	switch p.Below(5) {
	case 0:
		return 0
	case 1, 2:
		n := []int{0, 1, 2, 3, 4, 7, 8, 15, 16, 20, 31, 32, 47, 48, 49}[p.Below(15)]
		return Header(n, p.Word()>>p.Below(64)&(1<<n-1))
	case 3:
		s := h.Spans[p.Below(len(h.Spans))]
		return uint64(s.First*16 + s.Size*p.Below(s.Alloc.N))
	}
	return p.Word() >> p.Below(64)
}

// Broken returns a copy of a heap that has spans, of which the arena, the pages or a span is changed as it comes.
func Broken(p *Picks, h api.Heap) api.Heap {
	h = CopyHeap(h)
	at, other := p.Below(len(h.Spans)), p.Below(len(h.Spans))
	s := &h.Spans[at]
	numbers := append(Ints(), -1, 0, 1, 2, 3, 4, 5, 8, 16, s.First-1, s.First+1, h.Pages.Used.N-1, h.Pages.Used.N, 1023, 1024)
	switch p.Below(9) {
	case 0:
		s.First = numbers[p.Below(len(numbers))]
	case 1:
		s.Pages = numbers[p.Below(len(numbers))]
	case 2:
		s.Size = numbers[p.Below(len(numbers))]
	case 3:
		s.Mark.W[0] = p.Word() >> p.Below(64)
	case 4:
		s.Alloc = BadBits()[p.Below(len(BadBits()))]
	case 5:
		h.Spans[at], h.Spans[other] = h.Spans[other], h.Spans[at]
	case 6:
		h.Spans = slices.Insert(h.Spans, at, CopySpans(h.Spans[other])...)
	case 7:
		words := []int{0, 1, 16, len(h.Arena.Words) - 16, len(h.Arena.Words) - 1, len(h.Arena.Words) + 1, len(h.Arena.Words) + 16, 16384, 16385}
		h.Arena.Words = append(h.Arena.Words, make([]uint64, 16385)...)[:max(words[p.Below(len(words))], 0)]
	default:
		h.Pages.Used = BadBits()[p.Below(len(BadBits()))]
	}
	return h
}

// WovenHeaps returns heaps, the first one of which is valid, whose lists share memory.
func WovenHeaps() []api.Heap {
	woven := func(words ...uint64) api.Heap {
		h := Heap(2, []api.Span{Span(1, 1, 2, 3, 3)}, Object{Addr: 16}, Object{Addr: 18, N: 1, Mask: 1, Fields: []uint64{16}})
		s, word := &h.Spans[0], []uint64{3}
		h.Pages.Used.W, s.Alloc.W, s.Mark.W = word, word, word
		copy(h.Arena.Words[16:], words)
		return h
	}
	return []api.Heap{woven(), woven(1), woven(1, 2, 3, 4), woven(Header(1, 1), math.MaxUint64), woven(Header(0, 0), 1)}
}
