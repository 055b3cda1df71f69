package verify_test

import (
	"slices"

	"besom/api"
	"besom/sample"
)

// What the chapter's words say, written down once more, without the package and without the layers below it.

var same = sample.SameHeaps

func bit(b api.Bits, i int) bool {
	return b.W[i/64]>>(i%64)&1 == 1
}

func put(b api.Bits, i int, on bool) {
	b.W[i/64] &^= 1 << (i % 64)
	if on {
		b.W[i/64] |= 1 << (i % 64)
	}
}

func validBits(b api.Bits) bool {
	if b.N < 0 || b.N > 4096 || len(b.W) != (b.N+63)/64 {
		return false
	}
	for i := b.N; i < 64*len(b.W); i++ {
		if bit(b, i) {
			return false
		}
	}
	return true
}

// validSpan reports whether a span is valid by itself.
func validSpan(s api.Span) bool {
	slots, ok := map[int]int{0: 1, 2: 8, 4: 4, 8: 2, 16: 1}[s.Size]
	if !ok || s.First < 0 || s.First > 1023 || s.Size > 0 && s.Pages != 1 || s.Size == 0 && (s.Pages < 2 || s.Pages > 4) || s.First+s.Pages > 1024 {
		return false
	}
	if !validBits(s.Alloc) || !validBits(s.Mark) || s.Alloc.N != slots || s.Mark.N != slots {
		return false
	}
	for i := range slots {
		if bit(s.Mark, i) && !bit(s.Alloc, i) {
			return false
		}
	}
	return true
}

func framed(h api.Heap) bool {
	n := h.Pages.Used.N
	return len(h.Arena.Words) <= 16384 && validBits(h.Pages.Used) && n > 0 && len(h.Arena.Words) == 16*n
}

// wrongSpan reports whether a span is valid by itself, and where it may be.
func wrongSpan(h api.Heap, i int) bool {
	s := h.Spans[i]
	if !validSpan(s) || s.First < 1 || s.First+s.Pages > h.Pages.Used.N {
		return true
	}
	return i > 0 && validSpan(h.Spans[i-1]) && s.First < h.Spans[i-1].First+h.Spans[i-1].Pages
}

// belongs reports whether a page belongs to a span.
func belongs(h api.Heap, page int) bool {
	return slices.ContainsFunc(h.Spans, func(s api.Span) bool { return page >= s.First && page-s.First < s.Pages })
}

// thing is an object, its slot and its words: those of the object, and those of the slot.
type thing struct {
	addr             uint64
	at, slot         int
	current, faulty  bool
	mask             uint64
	words, slotWords int
}

// things are the objects of a heap whose spans are right.
func things(h api.Heap) []thing {
	var out []thing
	for at, s := range h.Spans {
		for slot := range s.Alloc.N {
			if !bit(s.Alloc, slot) {
				continue
			}
			addr := s.First*16 + slot*s.Size
			w := h.Arena.Words[addr]
			x := thing{addr: uint64(addr), at: at, slot: slot, current: s.Swept || bit(s.Mark, slot), mask: w << 8 >> 16, words: int(w&0xff) + 1, slotWords: s.Size}
			if s.Size == 0 {
				x.slotWords = 16 * s.Pages
			}
			x.faulty = w>>56 != 0xa5 || x.words > 49 || x.mask>>(x.words-1) != 0 || !goes(x.words, s)
			out = append(out, x)
		}
	}
	return out
}

// goes reports whether an object of so many words goes with a span.
func goes(words int, s api.Span) bool {
	for _, size := range []int{2, 4, 8, 16} {
		if words <= size {
			return s.Size == size
		}
	}
	return s.Size == 0 && 16*s.Pages >= words && 16*(s.Pages-1) < words
}

// faultsOf are the faults of a heap.
func faultsOf(h api.Heap) []api.Fault {
	if !framed(h) {
		return []api.Fault{{Kind: api.FaultFrame}}
	}
	var out []api.Fault
	for i := range min(len(h.Spans), 257) {
		if i == 256 || wrongSpan(h, i) {
			out = append(out, api.Fault{Kind: api.FaultSpan, At: uint64(i)})
		}
	}
	if len(out) > 0 {
		return out
	}
	for page := range h.Pages.Used.N {
		if bit(h.Pages.Used, page) != (page == 0 || belongs(h, page)) {
			out = append(out, api.Fault{Kind: api.FaultPage, At: uint64(page)})
		}
	}
	return append(out, wordFaults(h)...)
}

// wordFaults are the faults of the words of a heap whose spans are right.
func wordFaults(h api.Heap) []api.Fault {
	var heads, refs, dirt []api.Fault
	may, owned := map[uint64]bool{0: true}, map[int]bool{}
	for _, x := range things(h) {
		n := x.words
		if x.faulty {
			heads = append(heads, api.Fault{Kind: api.FaultHead, At: x.addr})
			n = x.slotWords
		}
		may[x.addr] = x.current && !x.faulty
		for i := range n {
			owned[int(x.addr)+i] = true
		}
	}
	for _, x := range things(h) {
		if !x.current || x.faulty {
			continue
		}
		for field := range x.words - 1 {
			at := int(x.addr) + 1 + field
			if x.mask>>field&1 == 1 && !may[h.Arena.Words[at]] {
				refs = append(refs, api.Fault{Kind: api.FaultRef, At: uint64(at)})
			}
		}
	}
	for at, w := range h.Arena.Words {
		if w != 0 && !owned[at] {
			dirt = append(dirt, api.Fault{Kind: api.FaultDirt, At: uint64(at)})
		}
	}
	return append(append(heads, refs...), dirt...)
}

// mended is what Mend answers.
func mended(h api.Heap) (api.Heap, int, api.Errno) {
	l := faultsOf(h)
	if len(l) > 0 && (l[0].Kind == api.FaultFrame || l[0].Kind == api.FaultSpan) {
		return api.Heap{}, 0, api.ErrForm
	}
	h = sample.CopyHeap(h)
	count := 0
	for len(l) > 0 {
		count += len(l)
		for _, f := range l {
			repair(h, f)
		}
		l = faultsOf(h)
	}
	return h, count, api.OK
}

// repair repairs a fault in the memory of h.
func repair(h api.Heap, f api.Fault) {
	at := int(f.At)
	switch f.Kind {
	case api.FaultPage:
		put(h.Pages.Used, at, at == 0 || belongs(h, at))
	case api.FaultHead:
		for _, x := range things(h) {
			if x.addr == f.At {
				put(h.Spans[x.at].Alloc, x.slot, false)
				put(h.Spans[x.at].Mark, x.slot, false)
				clear(h.Arena.Words[at:][:x.slotWords])
			}
		}
	case api.FaultRef, api.FaultDirt:
		h.Arena.Words[at] = 0
	}
}
