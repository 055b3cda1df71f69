package dump

import (
	"slices"
	"strings"

	"besom/api"
	"besom/bits"
	"besom/head"
	"besom/heap"
	"besom/span"
)

// reading is what was read of a heap.
type reading struct {
	api.Heap
	// last is the index of the span that was read last.
	last int
}

// read goes on with a line. The first one has to be that of the heap, and no other one is.
func (r *reading) read(line string, first bool) api.Errno {
	words := strings.Split(line, blank)
	name, words := words[0], words[1:]
	switch {
	case first && name == heapName:
		return r.heap(words)
	case !first && name == spanName:
		return r.span(words)
	case !first && name == objectName:
		return r.object(words)
	}
	return api.ErrForm
}

// heap begins with a heap of so many pages as its line tells.
func (r *reading) heap(words []string) api.Errno {
	l, ok := numbers(words...)
	if !ok || len(l) != 1 {
		return api.ErrForm
	}
	h, why := heap.Make(whole(l[0]))
	if why != api.OK {
		return api.ErrForm
	}
	r.Heap = h
	return api.OK
}

// span adds the span of a line, whose pages are in use then.
func (r *reading) span(words []string) api.Errno {
	e, ok := entryOf(words, swept, old)
	if !ok || len(e.rest) > 0 {
		return api.ErrForm
	}
	s, why := span.Make(whole(e.ahead[0]), whole(e.ahead[1]), whole(e.ahead[2]))
	if why != api.OK {
		return why
	}
	s.Swept = e.is
	l, why := span.Add(r.Spans, s)
	if why != api.OK {
		return why
	}
	r.Spans = l
	r.last = slices.IndexFunc(l, func(other api.Span) bool {
		return other.First == s.First
	})
	// Where the heap has not all of these pages, it is not valid, whatever is used.
	r.Pages.Used, _ = bits.Fill(r.Pages.Used, s.First, s.Pages, true)
	return api.OK
}

// object puts the object of a line into a slot of the last span.
func (r *reading) object(words []string) api.Errno {
	e, ok := entryOf(words, black, white)
	if !ok || len(r.Spans) == 0 {
		return api.ErrForm
	}
	addr, shape := e.ahead[0], api.Shape{N: whole(e.ahead[1]), Mask: e.ahead[2]}
	header, why := head.Pack(shape)
	if why != api.OK || len(e.rest) != shape.N {
		return api.ErrForm
	}
	if !r.take(addr, e.is) {
		return api.ErrTwice
	}
	r.write(addr, append([]uint64{header}, e.rest...)...)
	return api.OK
}

// take allocates the slot of the last span that has an address. It reports whether there is one that was not allocated before.
func (r *reading) take(addr uint64, marked bool) bool {
	s := &r.Spans[r.last]
	for slot := range s.Alloc.N {
		if at, _ := span.Addr(*s, slot); at != addr {
			continue
		}
		taken, _ := bits.Get(s.Alloc, slot)
		s.Alloc, _ = bits.Put(s.Alloc, slot, true)
		s.Mark, _ = bits.Put(s.Mark, slot, marked)
		return !taken
	}
	return false
}

// write puts words into the arena, from an address on. Where they do not go into the slot, or the slot is not in the arena, the heap is not valid, whatever they are written over.
func (r *reading) write(addr uint64, words ...uint64) {
	if addr < uint64(len(r.Arena.Words)) {
		copy(r.Arena.Words[addr:], words)
	}
}
