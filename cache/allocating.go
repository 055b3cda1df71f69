package cache

import (
	"slices"

	"besom/api"
	"besom/bits"
	"besom/class"
	"besom/head"
	"besom/sweep"
)

// freeSlot returns the first slot of a span that is not allocated, or ErrNone.
func freeSlot(s api.Span) (int, api.Errno) {
	return bits.First(s.Alloc, 0, false)
}

func roomy(s api.Span) bool {
	_, why := freeSlot(s)
	return why == api.OK
}

// create allocates an object for a mutator, counts that, and returns its address.
func (w *working) create(who int, s api.Shape) (uint64, api.Errno) {
	if !w.has(who) {
		return 0, api.ErrTask
	}
	if why := head.Check(s); why != api.OK {
		return 0, why
	}
	c, _ := class.Of(s.N + 1)
	if c < 0 {
		w.Misses[who]++
		return w.large(s)
	}
	if at := w.spanAt(w.Spans[who][c]); at >= 0 && roomy(w.Gc.Marker.Heap.Spans[at]) {
		w.Hits[who]++
		return w.place(at, s), api.OK
	}
	w.Misses[who]++
	at, why := w.acquire(who, c)
	if why != api.OK {
		return 0, why
	}
	return w.place(at, s), api.OK
}

// large allocates an object without a class, in pages of its own.
func (w *working) large(s api.Shape) (uint64, api.Errno) {
	g, addr, why := sweep.Alloc(w.Gc, s)
	w.Gc = g
	return addr, why
}

// acquire makes a mutator own another span of a class, which has a slot that is not allocated, and returns its index.
func (w *working) acquire(who, c int) (int, api.Errno) {
	w.Spans[who][c] = 0
	size, _ := class.Size(c)
	at := w.sweepFor(func(s api.Span) bool {
		return s.Size == size && s.Swept && roomy(s) && w.owner(s.First) < 0
	})
	if at < 0 {
		var why api.Errno
		if at, why = w.grow(c); why != api.OK {
			return 0, why
		}
	}
	w.Spans[who][c] = w.Gc.Marker.Heap.Spans[at].First
	return at, api.OK
}

// sweepFor returns the index of the first span that is wanted, and sweeps until there is one. It returns -1 when nothing is left to be swept.
func (w *working) sweepFor(wanted func(s api.Span) bool) int {
	at := w.find(wanted)
	for at < 0 && w.Gc.Phase == api.PhaseSweep {
		w.Gc, _, _ = sweep.Sweep(w.Gc)
		at = w.find(wanted)
	}
	return at
}

// grow adds a span of one page for a class, as heap.New does, and returns its index. With an error it changes nothing.
func (w *working) grow(c int) (int, api.Errno) {
	h := &w.Gc.Marker.Heap
	page, why := bits.First(h.Pages.Used, 0, false)
	if why != api.OK || len(h.Spans) >= api.MaxSpans {
		return 0, api.ErrFull
	}
	h.Pages.Used, _ = bits.Put(h.Pages.Used, page, true)
	at := w.find(func(s api.Span) bool { return s.First > page })
	if at < 0 {
		at = len(h.Spans)
	}
	h.Spans = slices.Insert(h.Spans, at, newSpan(page, c))
	return at, api.OK
}

// newSpan returns a span of one page for a class, without objects.
func newSpan(page, c int) api.Span {
	size, _ := class.Size(c)
	slots, _ := class.Slots(c)
	alloc, _ := bits.Make(slots)
	mark, _ := bits.Make(slots)
	return api.Span{First: page, Pages: 1, Size: size, Alloc: alloc, Mark: mark, Swept: true}
}

// place allocates an object in the first free slot of a span, whose words are all 0, and returns its address.
func (w *working) place(at int, shape api.Shape) uint64 {
	h := &w.Gc.Marker.Heap
	s := &h.Spans[at]
	slot, _ := freeSlot(*s)
	s.Alloc, _ = bits.Put(s.Alloc, slot, true)
	s.Mark, _ = bits.Put(s.Mark, slot, w.Gc.Marker.On)
	addr := uint64(s.First*api.PageWords + slot*s.Size)
	h.Arena.Words[addr], _ = head.Pack(shape)
	return addr
}
