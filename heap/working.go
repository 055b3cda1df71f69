package heap

import (
	"iter"
	"slices"

	"besom/api"
	"besom/arena"
	"besom/bits"
	"besom/head"
	"besom/pages"
	"besom/plain"
	"besom/span"
)

// working is a heap at work. Its methods call the layers below only with what these do not refuse in a valid heap, so that there is no error to hand on but that of room.
type working struct {
	api.Heap
}

// object is a current object, as it was found: its span has the index at.
type object struct {
	addr   uint64
	shape  api.Shape
	at     int
	slot   int
	marked bool
}

// field returns the address of a field.
func (o object) field(i int) uint64 {
	return o.addr + 1 + uint64(i)
}

// twin returns a copy with memory of its own.
func (w working) twin() working {
	return working{plain.Heap(w.Heap)}
}

func (w working) word(addr uint64) uint64 {
	word, _ := arena.Load(w.Arena, addr)
	return word
}

func (w *working) store(addr, word uint64) {
	w.Arena, _ = arena.Store(w.Arena, addr, word)
}

// current traverses the current objects, in ascending order of their addresses.
func (w working) current() iter.Seq[object] {
	return func(yield func(object) bool) {
		for at, s := range w.Spans {
			live := currentSlots(s)
			for slot, why := bits.First(live, 0, true); why == api.OK; slot, why = bits.First(live, slot+1, true) {
				if !yield(w.object(at, slot)) {
					return
				}
			}
		}
	}
}

// currentSlots are those whose objects are current: what is marked is allocated, too.
func currentSlots(s api.Span) api.Bits {
	if s.Swept {
		return s.Alloc
	}
	return s.Mark
}

func (w working) object(at, slot int) object {
	addr, _ := span.Addr(w.Spans[at], slot)
	shape, _ := head.Unpack(w.word(addr))
	marked, _ := bits.Get(w.Spans[at].Mark, slot)
	return object{addr: addr, shape: shape, at: at, slot: slot, marked: marked}
}

// spanAt returns the index of the span that begins at page first, or -1.
func (w working) spanAt(first int) int {
	return slices.IndexFunc(w.Spans, func(s api.Span) bool {
		return s.First == first
	})
}

// room returns the index of the span, and the slot, where a new object of a valid shape belongs. It adds a span if it has to.
func (w *working) room(shape api.Shape) (int, int, api.Errno) {
	size, count := plain.Needs(shape)
	// An object without a class never shares a span, not even one that has become empty.
	if size > 0 {
		at, slot, why := span.Room(w.Spans, size)
		if why == api.OK {
			return at, slot, api.OK
		}
	}
	at, why := w.grow(count, size)
	return at, 0, why
}

// grow adds a span, and returns its index. With an error it changes nothing.
func (w *working) grow(count, size int) (int, api.Errno) {
	p, first, why := pages.Take(w.Pages, count)
	if why != api.OK {
		return 0, why
	}
	s, _ := span.Make(first, count, size)
	l, why := span.Add(w.Spans, s)
	if why != api.OK {
		return 0, why
	}
	w.Pages, w.Spans = p, l
	return w.spanAt(first), api.OK
}

// place allocates an object in a free slot, whose words are all 0, and returns its address.
func (w *working) place(at, slot int, header uint64, black bool) uint64 {
	s := &w.Spans[at]
	s.Alloc, _ = bits.Put(s.Alloc, slot, true)
	s.Mark, _ = bits.Put(s.Mark, slot, black)
	addr, _ := span.Addr(*s, slot)
	w.store(addr, header)
	return addr
}

func (w *working) mark(o object) {
	s := &w.Spans[o.at]
	s.Mark, _ = bits.Put(s.Mark, o.slot, true)
}

func (w *working) unmark() {
	for i := range w.Spans {
		s := &w.Spans[i]
		s.Mark, _ = bits.Fill(s.Mark, 0, s.Mark.N, false)
	}
}

func (w working) swept() bool {
	return !slices.ContainsFunc(w.Spans, func(s api.Span) bool {
		return !s.Swept
	})
}

func (w *working) turn() {
	for i := range w.Spans {
		w.Spans[i].Swept = false
	}
}

// clean sweeps a span, and returns the addresses of the freed objects.
func (w *working) clean(at int) []uint64 {
	s := &w.Spans[at]
	freed := unmarked(*s)
	for _, addr := range freed {
		w.Arena, _ = arena.Clear(w.Arena, addr, plain.SlotWords(*s))
	}
	s.Alloc, _ = bits.Both(s.Alloc, s.Mark)
	s.Swept = true
	if left, _ := bits.Count(s.Alloc); left == 0 {
		w.drop(*s)
	}
	return freed
}

// drop removes a span without objects.
func (w *working) drop(s api.Span) {
	w.Spans, _ = span.Drop(w.Spans, s.First)
	w.Pages, _ = pages.Give(w.Pages, s.First, s.Pages)
}

// unmarked returns the addresses of the objects of a span that are not marked.
func unmarked(s api.Span) []uint64 {
	var addrs []uint64
	for slot := range s.Alloc.N {
		allocated, _ := bits.Get(s.Alloc, slot)
		marked, _ := bits.Get(s.Mark, slot)
		if allocated && !marked {
			addr, _ := span.Addr(s, slot)
			addrs = append(addrs, addr)
		}
	}
	return addrs
}
