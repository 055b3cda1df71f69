package sample

import (
	"math"
	"slices"

	"besom/api"
)

// Scav returns a heap of which these pages are Out, with counts as if they were returned, and no other ones ever. It does not ask whether it is valid.
func Scav(h api.Heap, out ...int) api.Scav {
	l := make([]bool, h.Pages.Used.N)
	for _, page := range out {
		l[page] = true
	}
	return api.Scav{Heap: CopyHeap(h), Out: Pack(l), Gone: uint64(len(out))}
}

// CopyScav returns the value with memory of its own.
func CopyScav(s api.Scav) api.Scav {
	s.Heap = CopyHeap(s.Heap)
	s.Out.W = slices.Clone(s.Out.W)
	return s
}

// SameScavs reports whether two values are alike; a nil list is an empty one.
func SameScavs(a, b api.Scav) bool {
	return SameHeaps(a.Heap, b.Heap) && SameBits(a.Out, b.Out) && a.Faults == b.Faults && a.Gone == b.Gone
}

// SpoilsOfScav returns functions each of which changes one list of a value, and all that lies behind its end.
func SpoilsOfScav(s api.Scav) []func() {
	return append(SpoilsOfHeap(s.Heap), SpoilWords(s.Out.W))
}

// RoomyScav returns a value in memory that goes on behind its lists, where a careless append would write to, and a function that reports whether what lies there is as it was.
func RoomyScav(s api.Scav) (api.Scav, func() bool) {
	s = CopyScav(s)
	h, rest := RoomyHeap(s.Heap)
	s.Heap = h
	return s, every([]func() bool{rest, extend(&s.Out.W, 77)})
}

// WovenScavs returns valid values whose lists share memory. Of the second one the bits of the pages that are Out are those of the slots.
func WovenScavs() []api.Scav {
	h := Heap(3, []api.Span{Span(1, 1, 4, 4, 4)}, Object{Addr: 24, N: 2})
	h.Spans[0].Alloc.W = h.Spans[0].Mark.W
	return []api.Scav{
		{Heap: WovenGcs()[0].Marker.Heap, Out: Pack(make([]bool, 2))},
		{Heap: h, Out: api.Bits{N: 3, W: h.Spans[0].Mark.W}, Gone: 1},
	}
}

// Free returns the free pages of a heap whose pages are valid, in ascending order.
func Free(h api.Heap) []int {
	var out []int
	for page := range h.Pages.Used.N {
		if h.Pages.Used.W[page/64]>>(page%64)&1 == 0 {
			out = append(out, page)
		}
	}
	return out
}

// SomeScav returns a valid value of the heap, which has to be valid: a free page is Out with a chance of one in rare.
func SomeScav(p *Picks, h api.Heap, rare int) api.Scav {
	out := slices.DeleteFunc(Free(h), func(int) bool { return p.Below(rare) > 0 })
	s := Scav(h, out...)
	s.Faults = p.Word() >> p.Below(64)
	s.Gone += s.Faults
	return s
}

// Scavs returns valid values: for each heap of Heaps one in which no page is Out, one in which each free page is, and one between these.
func Scavs() []api.Scav {
	p := Picks(231)
	var out []api.Scav
	for _, h := range Heaps() {
		out = append(out, Scav(h), Scav(h, Free(h)...), SomeScav(&p, h, 2))
	}
	last := Scav(ThreeObjects(), 5)
	last.Faults, last.Gone = math.MaxUint64, math.MaxUint64
	return append(out, last)
}

// SmallScavs returns those of Scavs that a test may try again and again.
func SmallScavs() []api.Scav {
	return slices.DeleteFunc(Scavs(), func(s api.Scav) bool { return s.Out.N > 100 })
}

// BadScavs returns values that are not valid, each for a reason of its own.
func BadScavs() []api.Scav {
	bad := []api.Scav{{}, {Heap: ThreeObjects()}, {Out: Pack(make([]bool, 6))}, {Faults: 1, Gone: 1}}
	for _, h := range BadHeaps() {
		s := api.Scav{Heap: h}
		if n := h.Pages.Used.N; n > 0 && n < 5000 {
			s.Out = Pack(make([]bool, n))
		}
		bad = append(bad, s)
	}
	for _, b := range append(BadBits(), badOut()...) {
		bad = append(bad, api.Scav{Heap: ThreeObjects(), Out: b})
	}
	for _, start := range Scavs() {
		for page := range start.Out.N {
			// The first ones and the last ones are enough of a great heap.
			if start.Heap.Pages.Used.W[page/64]>>(page%64)&1 == 1 && (page < 8 || page > start.Out.N-8) {
				s := CopyScav(start)
				s.Out.W[page/64] |= 1 << (page % 64)
				bad = append(bad, s)
			}
		}
	}
	return bad
}

// badOut are valid vectors that have not one bit for each of six pages.
func badOut() []api.Bits {
	var bad []api.Bits
	for _, n := range []int{0, 1, 5, 7, 16, 64, 65, 70, 1024, 4096} {
		bad = append(bad, Pack(make([]bool, n)))
	}
	// Of the six first bits the pages are right, but there are more bits.
	return append(bad, Pack([]bool{5: true, 6: false}), Pack([]bool{5: true, 6: true}))
}
