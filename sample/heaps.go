package sample

import (
	"math"
	"slices"

	"besom/api"
)

// Object is an object as its words are, from Addr on. Fields that are not given are 0.
type Object struct {
	Addr   uint64
	N      int
	Mask   uint64
	Fields []uint64
}

// Header returns the header word of a shape. It does not ask whether the shape is valid.
func Header(n int, mask uint64) uint64 {
	return 0xa5<<56 + mask<<8 + uint64(n)
}

// Heap returns a heap of so many pages with the spans, in whose words the objects are. It does not ask whether such a heap is valid.
func Heap(pages int, spans []api.Span, objects ...Object) api.Heap {
	used := make([]bool, pages)
	for i := range used {
		used[i] = i == 0 || slices.ContainsFunc(spans, func(s api.Span) bool {
			return i >= s.First && i-s.First < s.Pages
		})
	}
	words := make([]uint64, pages*16)
	for _, o := range objects {
		words[o.Addr] = Header(o.N, o.Mask)
		copy(words[o.Addr+1:], o.Fields)
	}
	return api.Heap{Arena: api.Arena{Words: words}, Pages: api.Pages{Used: Pack(used)}, Spans: CopySpans(spans...)}
}

// CopyHeap returns the heap with words of its own.
func CopyHeap(h api.Heap) api.Heap {
	h.Arena.Words = slices.Clone(h.Arena.Words)
	h.Pages.Used.W = slices.Clone(h.Pages.Used.W)
	h.Spans = CopySpans(h.Spans...)
	return h
}

// SameHeaps reports whether two heaps are alike; a nil list is an empty one.
func SameHeaps(a, b api.Heap) bool {
	return slices.Equal(a.Arena.Words, b.Arena.Words) && SameBits(a.Pages.Used, b.Pages.Used) && SameSpans(a.Spans, b.Spans)
}

// ThreeObjects is the heap of the examples of chapter 7: a at 16, b at 20 and c at 32.
func ThreeObjects() api.Heap {
	return Heap(6, []api.Span{Span(1, 1, 4, 3, 0), Span(2, 2, 0, 1, 0)},
		Object{Addr: 16, N: 3, Mask: 5}, Object{Addr: 20, N: 3}, Object{Addr: 32, N: 20, Mask: 1})
}

// Heaps returns valid heaps, small ones first.
func Heaps() []api.Heap {
	return []api.Heap{
		Heap(1, nil),
		Heap(2, nil),
		Heap(70, nil),
		ThreeObjects(),
		linked(),
		emptySpans(),
		largeObjects(),
		halfSwept(false),
		halfSwept(true),
		scattered(),
		FullPages(),
		FullSpans(),
	}
}

// linked has objects that refer to one another and to themselves, some of which are marked, and numbers of all kinds.
func linked() api.Heap {
	return Heap(8, []api.Span{Span(1, 1, 2, 0x83, 1), Span(2, 1, 4, 9, 9), Span(4, 1, 8, 2, 2), Span(5, 1, 16, 1, 0)},
		Object{Addr: 16, N: 1, Mask: 1, Fields: []uint64{16}},
		Object{Addr: 18},
		Object{Addr: 30, N: 1, Fields: []uint64{math.MaxUint64}},
		Object{Addr: 32, N: 2, Mask: 2, Fields: []uint64{17, 72}},
		Object{Addr: 44, N: 3, Mask: 7, Fields: []uint64{72, 0, 32}},
		Object{Addr: 72, N: 7, Mask: 0x41, Fields: []uint64{16, 1, 2, 3, 4, 1 << 63, 44}},
		Object{Addr: 80, N: 15, Mask: 1 << 14, Fields: []uint64{14: 18}})
}

// emptySpans has spans of all sizes without objects, which Swept ones may be, too.
func emptySpans() api.Heap {
	var l []api.Span
	for i, size := range []int{2, 4, 8, 16} {
		l = append(l, Span(1+2*i, 1, size, 0, 0), Unswept(Span(2+2*i, 1, size, 0, 0)))
	}
	return Heap(22, append(l, Span(10, 2, 0, 0, 0), Unswept(Span(12, 3, 0, 0, 0)), Span(18, 4, 0, 0, 0)))
}

// largeObjects has objects of the smallest and the greatest number of fields for each number of pages.
func largeObjects() api.Heap {
	all := slices.Repeat([]uint64{160}, 48)
	return Heap(24, []api.Span{Span(1, 2, 0, 1, 1), Span(3, 2, 0, 1, 0), Span(5, 3, 0, 1, 0), Span(8, 1, 16, 1, 0), Span(10, 4, 0, 1, 0), Span(20, 3, 0, 1, 1)},
		Object{Addr: 16, N: 16, Mask: 1 << 15, Fields: []uint64{15: 320}},
		Object{Addr: 48, N: 31, Fields: all[:31]},
		Object{Addr: 80, N: 32, Mask: 1 << 31, Fields: []uint64{31: 80}},
		Object{Addr: 128, N: 8, Mask: 0xff, Fields: []uint64{16, 48, 80, 128, 160, 320, 0, 16}},
		Object{Addr: 160, N: 48, Mask: 1<<48 - 1, Fields: all},
		Object{Addr: 320, N: 47, Fields: []uint64{46: math.MaxUint64}})
}

// halfSwept has a Swept span at 32, and others that are not Swept, in which only the objects at 18 and 64 are current, and the one at 80 if large is true. The others refer to what need not be there.
func halfSwept(large bool) api.Heap {
	l := []api.Span{
		Unswept(Span(1, 1, 2, 7, 2)), Span(2, 1, 2, 3, 1), Unswept(Span(3, 1, 4, 5, 0)),
		Unswept(Span(4, 1, 16, 1, 1)), Unswept(Span(5, 2, 0, 1, 0)),
	}
	if large {
		l[4] = Unswept(Span(5, 2, 0, 1, 1))
	}
	return Heap(9, l,
		Object{Addr: 16, N: 1, Mask: 1, Fields: []uint64{17}},
		Object{Addr: 18, N: 1, Mask: 1, Fields: []uint64{34}},
		Object{Addr: 20, N: 1, Mask: 1, Fields: []uint64{math.MaxUint64}},
		Object{Addr: 32, N: 1, Mask: 1, Fields: []uint64{18}},
		Object{Addr: 34, N: 1, Mask: 1, Fields: []uint64{64}},
		Object{Addr: 48, N: 2, Mask: 3, Fields: []uint64{48, 16}},
		Object{Addr: 56, N: 3, Mask: 4, Fields: []uint64{1, 2, 18}},
		Object{Addr: 64, N: 9, Mask: 2, Fields: []uint64{16, 64}},
		Object{Addr: 80, N: 17, Mask: 1 << 16, Fields: []uint64{16: 18}})
}

// scattered has single free pages alone, and a last page that is free.
func scattered() api.Heap {
	var l []api.Span
	var objects []Object
	for page := 1; page < 12; page += 2 {
		l = append(l, Span(page, 1, 8, 1, uint64(page/2%2)))
		objects = append(objects, Object{Addr: uint64(page * 16), N: 4, Mask: 8, Fields: []uint64{uint64(page), 1, 2, uint64(16 * (12 - page))}})
	}
	return Heap(13, l, objects...)
}

// FullPages returns the greatest heap, all of whose pages are in use, and which has as many spans as there may be.
func FullPages() api.Heap {
	var l []api.Span
	var objects []Object
	for i := range 256 {
		pages, n := 4, 48
		if i == 255 {
			pages, n = 3, 47
		}
		l = append(l, Span(1+4*i, pages, 0, 1, uint64(i%2)))
		objects = append(objects, Object{Addr: uint64(16 + 64*i), N: n, Mask: 1<<n - 1, Fields: slices.Repeat([]uint64{uint64(16 + 64*((i+1)%256))}, n)})
	}
	return Heap(1024, l, objects...)
}

// FullSpans returns a heap that has as many spans as there may be, and free pages. All slots but the first of the last span are allocated, and their objects are a ring.
func FullSpans() api.Heap {
	var l []api.Span
	var objects []Object
	for page := 1; page <= 256; page++ {
		alloc := uint64(0xff)
		if page == 256 {
			alloc = 0xfe
		}
		l = append(l, Span(page, 1, 2, alloc, 0x55&alloc))
		for slot := range 8 {
			addr := uint64(16*page + 2*slot)
			if alloc>>slot&1 == 1 {
				objects = append(objects, Object{Addr: addr, N: 1, Mask: 1})
			}
		}
	}
	for i := range objects {
		objects[i].Fields = []uint64{objects[(i+1)%len(objects)].Addr}
	}
	return Heap(300, l, objects...)
}

// BadHeaps returns heaps that are not valid, each for a reason of its own.
func BadHeaps() []api.Heap {
	return slices.Concat(badFrames(), badOwners(), badHeaders(), badRefs(), badWords())
}

// badFrames are heaps whose arena, pages and spans are not valid, or do not belong together.
func badFrames() []api.Heap {
	bad := []api.Heap{{}, {Spans: []api.Span{Span(1, 1, 4, 0, 0)}}, Heap(0, nil), Heap(1025, nil), Heap(4096, nil), Heap(300, nil)}
	bad[5].Arena.Words = make([]uint64, 300)
	for _, n := range []int{0, 1, 16, 80, 95, 97, 112, 16384, 16385} {
		h := ThreeObjects()
		h.Arena.Words = append(make([]uint64, 0, n), h.Arena.Words[:min(n, 96)]...)[:n]
		bad = append(bad, h)
	}
	for _, b := range BadBits() {
		h := ThreeObjects()
		h.Pages.Used = b
		bad = append(bad, h)
	}
	for _, s := range BadSpans() {
		bad = append(bad, Heap(8, []api.Span{s}), Heap(8, []api.Span{Span(1, 1, 2, 0, 0), s}))
	}
	one, two := Span(1, 1, 4, 0, 0), Span(2, 2, 0, 0, 0)
	return append(bad,
		Heap(6, []api.Span{two, one}), Heap(6, []api.Span{one, one}), Heap(6, []api.Span{two, Span(3, 1, 4, 0, 0)}),
		Heap(6, []api.Span{one, Span(1, 2, 0, 0, 0)}), Heap(600, slices.Repeat([]api.Span{one}, 257)), tooManySpans())
}

func tooManySpans() api.Heap {
	var l []api.Span
	for i := range 257 {
		l = append(l, Span(1+i, 1, 2, 0, 0))
	}
	return Heap(300, l)
}

// badOwners are heaps whose pages in use are not page 0 and the pages of the spans.
func badOwners() []api.Heap {
	bad := []api.Heap{
		Heap(6, []api.Span{Span(0, 1, 4, 0, 0)}), Heap(6, []api.Span{Span(0, 2, 0, 0, 0), Span(2, 1, 2, 0, 0)}), Heap(1, []api.Span{Span(0, 1, 16, 0, 0)}),
		Heap(6, []api.Span{Span(6, 1, 4, 0, 0)}), Heap(6, []api.Span{Span(5, 2, 0, 0, 0)}), Heap(6, []api.Span{Span(4, 4, 0, 0, 0)}),
		Heap(6, []api.Span{Span(1023, 1, 4, 0, 0)}), Heap(64, []api.Span{Span(64, 1, 4, 0, 0)}),
	}
	for page := range 6 {
		h := ThreeObjects()
		h.Pages.Used.W[0] ^= 1 << page
		bad = append(bad, h)
	}
	// As many pages are in use as ought to be, but other ones.
	other := ThreeObjects()
	other.Pages.Used.W[0] ^= 1<<3 | 1<<5
	none := ThreeObjects()
	none.Pages.Used.W[0] ^= 1 | 1<<4
	return append(bad, other, none)
}

// badHeaders are heaps in which the first word of an object is no header word, or one that does not go with its span.
func badHeaders() []api.Heap {
	var bad []api.Heap
	for _, w := range []uint64{0, 1, 3, 0xa4<<56 + 3, 0xa500000000000031, 0xa500000000000100, 0xa500000000000803, 0xa5000000000000ff, math.MaxUint64} {
		for _, addr := range []uint64{16, 20, 32} {
			h := ThreeObjects()
			h.Arena.Words[addr] = w
			old := CopyHeap(h)
			for i := range old.Spans {
				old.Spans[i].Swept = false
			}
			bad = append(bad, h, old)
		}
	}
	// These have fewer words than go with the slots of their span, or more.
	for _, x := range []struct{ pages, size, n int }{
		{1, 2, 2}, {1, 2, 3}, {1, 2, 16}, {1, 2, 48}, {1, 4, 0}, {1, 4, 1}, {1, 4, 4}, {1, 4, 48},
		{1, 8, 0}, {1, 8, 3}, {1, 8, 8}, {1, 8, 16}, {1, 16, 0}, {1, 16, 7}, {1, 16, 16}, {1, 16, 48},
		{2, 0, 0}, {2, 0, 1}, {2, 0, 15}, {2, 0, 32}, {2, 0, 48}, {3, 0, 15}, {3, 0, 31}, {3, 0, 48}, {4, 0, 0}, {4, 0, 15}, {4, 0, 16}, {4, 0, 47},
	} {
		s := Span(1, x.pages, x.size, 1, 0)
		o := Object{Addr: 16, N: x.n}
		bad = append(bad, Heap(6, []api.Span{s}, o), Heap(6, []api.Span{Unswept(s)}, o))
	}
	return bad
}

// badRefs are heaps in which a field of a current object refers to no current object.
func badRefs() []api.Heap {
	var bad []api.Heap
	for _, ref := range []uint64{1, 15, 17, 19, 24, 28, 33, 48, 64, 95, 96, 16384, 1<<32 + 16, 1<<60 + 16, 1 << 63, math.MaxUint64 - 15, math.MaxUint64} {
		for _, at := range []uint64{17, 19, 33} {
			h := ThreeObjects()
			h.Arena.Words[at] = ref
			bad = append(bad, h)
		}
	}
	for _, x := range [][2]uint64{{19, 16}, {35, 20}, {33, 48}, {66, 80}} {
		h := halfSwept(false)
		h.Arena.Words[x[0]] = x[1]
		bad = append(bad, h)
	}
	return bad
}

// badWords are heaps in which a word that belongs to no object is not 0. Two of them wrap round to the sum 0.
func badWords() []api.Heap {
	var bad []api.Heap
	for _, at := range []uint64{0, 1, 15, 24, 25, 28, 31, 53, 54, 63, 64, 79, 80, 95} {
		for _, w := range []uint64{1, 16, Header(3, 0), 1 << 63, math.MaxUint64} {
			h := ThreeObjects()
			h.Arena.Words[at] = w
			bad = append(bad, h)
		}
	}
	twice := ThreeObjects()
	twice.Arena.Words[4], twice.Arena.Words[5] = 1<<63, 1<<63
	tail := linked()
	tail.Arena.Words[35] = 1
	return append(bad, twice, tail)
}
