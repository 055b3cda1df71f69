package heap

import (
	"besom/api"
	"besom/arena"
	"besom/bits"
	"besom/head"
	"besom/pages"
	"besom/plain"
	"besom/span"
)

// framed reports whether the arena, the pages and the spans are valid, and the arena consists of the pages.
func (w working) framed() bool {
	if arena.Check(w.Arena) != api.OK || pages.Check(w.Pages) != api.OK || span.Check(w.Spans...) != api.OK {
		return false
	}
	count := w.Pages.Used.N
	return count > 0 && len(w.Arena.Words) == count*api.PageWords
}

// owned reports whether the pages in use are exactly page 0 and those of the spans. Valid spans share no pages, so that it is enough to count these.
func (w working) owned() bool {
	count := 1
	for _, s := range w.Spans {
		if s.First == 0 || !w.used(s.First, s.Pages) {
			return false
		}
		count += s.Pages
	}
	used, _ := bits.Count(w.Pages.Used)
	return used == count && w.used(0, 1)
}

// used reports whether the n pages from page first on exist and are in use.
func (w working) used(first, n int) bool {
	for i := range n {
		// Beside an error, on is false.
		if on, _ := bits.Get(w.Pages.Used, first+i); !on {
			return false
		}
	}
	return true
}

// filled reports whether all objects have a header word that goes with their span, and all words that belong to no object are 0.
func (w working) filled() bool {
	for page := range w.Pages.Used.N {
		if (page == 0 || !w.used(page, 1)) && !w.blank(uint64(page)*api.PageWords, api.PageWords) {
			return false
		}
	}
	for _, s := range w.Spans {
		if !w.sound(s) {
			return false
		}
	}
	return true
}

// sound reports whether the words of a span are what filled asks for.
func (w working) sound(s api.Span) bool {
	for slot := range s.Alloc.N {
		addr, _ := span.Addr(s, slot)
		taken := uint64(0)
		if allocated, _ := bits.Get(s.Alloc, slot); allocated {
			shape, why := head.Unpack(w.word(addr))
			if why != api.OK || !plain.Fits(shape, s) {
				return false
			}
			taken = uint64(shape.N) + 1
		}
		if !w.blank(addr+taken, plain.SlotWords(s)-taken) {
			return false
		}
	}
	return true
}

// blank reports whether the n words from an address on are 0. Their sum would not tell, because it wraps round.
func (w working) blank(addr, n uint64) bool {
	for i := range n {
		if w.word(addr+i) != 0 {
			return false
		}
	}
	return true
}
