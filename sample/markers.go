package sample

import (
	"math"
	"slices"

	"besom/api"
)

// Off returns a marker of so many workers that is not On.
func Off(h api.Heap, workers int) api.Marker {
	return api.Marker{Heap: CopyHeap(h), Grey: Grey(make([][]uint64, workers)...), Hands: make([]api.Hand, workers)}
}

// On returns a marker that is On, with these hands, and queues behind which as many are added as there are hands. It does not ask whether it is valid.
func On(h api.Heap, hands []api.Hand, queues ...[]uint64) api.Marker {
	queues = append(slices.Clone(queues), make([][]uint64, max(0, len(hands)-len(queues)))...)
	return api.Marker{On: true, Heap: CopyHeap(h), Grey: Grey(queues...), Hands: slices.Clone(hands)}
}

// CopyMarker returns the marker with memory of its own.
func CopyMarker(m api.Marker) api.Marker {
	m.Heap = CopyHeap(m.Heap)
	m.Grey = CopyGrey(m.Grey)
	m.Hands = slices.Clone(m.Hands)
	return m
}

// SameMarkers reports whether two markers are alike; a nil list is an empty one.
func SameMarkers(a, b api.Marker) bool {
	return a.On == b.On && SameHeaps(a.Heap, b.Heap) && SameGreys(a.Grey, b.Grey) && slices.Equal(a.Hands, b.Hands)
}

// Marks returns the heap with these objects marked, and no others. The objects have to exist.
func Marks(h api.Heap, addrs ...uint64) api.Heap {
	h = CopyHeap(h)
	for i := range h.Spans {
		s := &h.Spans[i]
		clear(s.Mark.W)
		for slot := range s.Mark.N {
			if slices.Contains(addrs, uint64(s.First*16+slot*s.Size)) {
				s.Mark.W[slot/64] |= 1 << (slot % 64)
			}
		}
	}
	return h
}

// Marked returns the addresses of the marked objects, in ascending order.
func Marked(h api.Heap) []uint64 {
	var out []uint64
	for _, s := range h.Spans {
		for slot := range s.Mark.N {
			if s.Mark.W[slot/64]>>(slot%64)&1 == 1 {
				out = append(out, uint64(s.First*16+slot*s.Size))
			}
		}
	}
	return out
}

// Shaded returns the marker, which is On, after these objects were shaded with worker 0, in order. It passes over 0.
func Shaded(m api.Marker, addrs ...uint64) api.Marker {
	m = CopyMarker(m)
	for _, addr := range addrs {
		if marked := Marked(m.Heap); addr != 0 && !slices.Contains(marked, addr) {
			m.Heap = Marks(m.Heap, append(marked, addr)...)
			m.Grey.Queues[0] = append(m.Grey.Queues[0], addr)
		}
	}
	return m
}

// AllSwept returns the heap with all spans Swept.
func AllSwept(h api.Heap) api.Heap {
	h = CopyHeap(h)
	for i := range h.Spans {
		h.Spans[i].Swept = true
	}
	return h
}

// FourLists is the heap of the examples of chapter 13: l0 to l3 are at 16, 18, 20 and 22.
func FourLists() api.Heap {
	return Heap(4, []api.Span{Span(1, 1, 2, 15, 0)},
		Object{Addr: 16, N: 1, Mask: 1, Fields: []uint64{18}}, Object{Addr: 18, N: 1, Mask: 1},
		Object{Addr: 20, N: 1, Mask: 1}, Object{Addr: 22, N: 1, Mask: 1})
}

// ThreeLinked is the heap of the examples of chapter 14: a is at 16, b at 32 and c at 34.
func ThreeLinked() api.Heap {
	return Heap(4, []api.Span{Span(1, 1, 4, 1, 0), Span(2, 1, 2, 3, 0)},
		Object{Addr: 16, N: 3, Mask: 5, Fields: []uint64{32, 0, 34}}, Object{Addr: 32, N: 1}, Object{Addr: 34, N: 1, Mask: 1, Fields: []uint64{16}})
}

// Markers returns valid markers, small ones first.
func Markers() []api.Marker {
	var out []api.Marker
	for i, h := range Heaps() {
		out = append(out, Off(h, 1+i%4))
	}
	lists, linked := FourLists(), ThreeLinked()
	full, spans := FullPages(), FullSpans()
	small := []api.Marker{
		Off(lists, 2),
		Off(Marks(lists, 16, 22), 2),
		Off(linked, 4),
		On(Heap(1, nil), make([]api.Hand, 1)),
		On(lists, make([]api.Hand, 2)),
		On(Marks(lists, 18, 20), make([]api.Hand, 2)),
		On(Marks(lists, 16, 18), make([]api.Hand, 2)),
		On(Marks(lists, 16), make([]api.Hand, 2), []uint64{16}),
		On(Marks(lists, 16), []api.Hand{{Obj: 16}, {}}),
		On(Marks(lists, 16, 18), []api.Hand{{}, {Obj: 16, Field: 1}}, nil, []uint64{18}),
		On(Marks(lists, 16, 18, 20), []api.Hand{{}, {}}, []uint64{16}, []uint64{18, 20}),
		On(Marks(linked, 16), make([]api.Hand, 2), nil, []uint64{16}),
		On(Marks(linked, 16, 32, 34), []api.Hand{{Obj: 16, Field: 3}, {Obj: 32}}, []uint64{34}),
		On(Marks(linked, 16, 34), []api.Hand{{}, {Obj: 34, Field: 1}}, []uint64{16}),
		On(Marks(linked, 16, 32), []api.Hand{{}, {Obj: 16, Field: 2}, {}, {Obj: 32, Field: 1}}),
	}
	return slices.Concat(small, out, []api.Marker{
		On(Marks(full), make([]api.Hand, 3)),
		On(Marks(full, 16, 80), []api.Hand{{Obj: 16, Field: 48}, {}}, nil, []uint64{80}),
		On(Marks(spans, 16, 18), []api.Hand{{Obj: 18, Field: 0}, {Obj: 16, Field: 1}}),
	})
}

// BadMarkers returns markers that are not valid, each for a reason of its own.
func BadMarkers() []api.Marker {
	return slices.Concat(badParts(), badOff(), badPlaces(), badBlacks())
}

// badParts are markers whose heap, queues or number of hands are not valid.
func badParts() []api.Marker {
	bad := []api.Marker{{}, {On: true}}
	for _, h := range BadHeaps() {
		bad = append(bad, Off(h, 1), On(h, make([]api.Hand, 1)))
	}
	for _, g := range BadGreys() {
		off, on := Off(FourLists(), len(g.Queues)), On(FourLists(), make([]api.Hand, len(g.Queues)))
		off.Grey, on.Grey = g, g
		bad = append(bad, off, on)
	}
	for _, n := range []int{0, 1, 3, 4, 1000} {
		off, on := Off(FourLists(), 2), On(FourLists(), make([]api.Hand, 2))
		off.Hands, on.Hands = make([]api.Hand, n), make([]api.Hand, n)
		bad = append(bad, off, on)
	}
	return bad
}

// badOff are markers that are not On, and have something to examine.
func badOff() []api.Marker {
	var bad []api.Marker
	for i, hands := range [][]api.Hand{{{}, {}}, {{Obj: 16}, {}}, {{}, {Obj: 16, Field: 1}}, {{}, {Field: 1}}, {{Field: -1}, {}}, {{}, {Obj: math.MaxUint64}}} {
		m := Off(Marks(FourLists(), 16, 18), 2)
		m.Hands = hands
		if i == 0 {
			m.Grey = Grey(nil, []uint64{16})
		}
		bad = append(bad, m)
	}
	return bad
}

// badPlaces are markers that are On, with a span that is not Swept, or with something in a queue or hand that may not be there.
func badPlaces() []api.Marker {
	h := Marks(FourLists(), 16, 18, 20)
	late := Marks(FourLists(), 16, 18, 20, 22)
	late.Spans[0] = Unswept(late.Spans[0])
	part := Heap(4, []api.Span{Span(1, 1, 2, 0, 0), Unswept(Span(2, 1, 4, 0, 0))})
	bad := []api.Marker{On(late, make([]api.Hand, 1)), On(late, make([]api.Hand, 1), []uint64{18}), On(part, make([]api.Hand, 1))}
	for _, addr := range []uint64{1, 2, 15, 17, 22, 24, 30, 32, 63, 64, 16384, 1 << 32, 1<<32 + 18, 1<<60 + 18, 1 << 63, math.MaxUint64} {
		bad = append(bad, On(h, make([]api.Hand, 2), []uint64{addr}), On(h, make([]api.Hand, 2), nil, []uint64{18, addr}),
			On(h, []api.Hand{{Obj: addr}, {}}), On(h, []api.Hand{{}, {Obj: addr, Field: 1}}), On(h, []api.Hand{{Obj: 18}, {Obj: addr}}, []uint64{20}))
	}
	bad = append(bad,
		On(h, []api.Hand{{Obj: 18}, {}}, []uint64{18}), On(h, []api.Hand{{Obj: 18}, {}}, nil, []uint64{20, 18}), On(h, []api.Hand{{Obj: 18}, {Obj: 18}}),
		On(h, []api.Hand{{Obj: 18}, {}, {Obj: 18, Field: 1}}), On(h, []api.Hand{{}, {Obj: 20, Field: 1}}, nil, []uint64{20}))
	for _, field := range append(Ints(), -1, 2, 3, 48, 49, 1<<32+1) {
		bad = append(bad, On(h, []api.Hand{{Obj: 18, Field: field}, {}}), On(h, []api.Hand{{}, {Field: field}}))
	}
	return append(bad, On(h, []api.Hand{{}, {Field: 1}}), On(Marks(ThreeLinked(), 32), []api.Hand{{Obj: 32, Field: 2}}))
}

// badBlacks are markers that are On, in which an object refers to a white one from a field that was examined.
func badBlacks() []api.Marker {
	lists, linked := FourLists(), ThreeLinked()
	return []api.Marker{
		On(Marks(lists, 16), make([]api.Hand, 2)),
		On(Marks(lists, 16, 20), make([]api.Hand, 2), []uint64{20}),
		On(Marks(lists, 16), []api.Hand{{Obj: 16, Field: 1}, {}}),
		On(Marks(linked, 16, 32), make([]api.Hand, 1)),
		On(Marks(linked, 16, 34), make([]api.Hand, 1)),
		On(Marks(linked, 34), make([]api.Hand, 1)),
		On(Marks(linked, 16, 32), []api.Hand{{Obj: 16, Field: 3}}),
		On(Marks(linked, 16, 34), []api.Hand{{Obj: 16, Field: 1}}),
		On(Marks(linked, 16, 34), []api.Hand{{Obj: 16, Field: 2}}, []uint64{34}),
		On(Marks(linked, 16, 34), []api.Hand{{}, {Obj: 16, Field: 3}}),
		On(Marks(linked, 32, 34), make([]api.Hand, 2), []uint64{32}),
		On(FullPages(), make([]api.Hand, 2)),
		On(FullSpans(), make([]api.Hand, 4)),
	}
}

// SomeMarker returns a valid marker of so many workers, and a heap of about so many spans; now and then one that is not On.
func SomeMarker(p *Picks, spans, workers int) api.Marker {
	h := Web(p, spans)
	if p.Below(6) == 0 {
		return Off(h, workers)
	}
	m := On(AllSwept(h), make([]api.Hand, workers))
	if p.Below(6) == 0 {
		return On(Marks(m.Heap), m.Hands)
	}
	marked := Marked(m.Heap)
	for _, o := range Objects(m.Heap) {
		if slices.Contains(marked, o.Addr) {
			putSomewhere(p, m, o, marked)
		}
	}
	return m
}

// putSomewhere puts a marked object into a queue or a hand, or nowhere, if it may be black.
func putSomewhere(p *Picks, m api.Marker, o Object, marked []uint64) {
	examined := 0
	for examined < o.N && (o.Mask>>examined&1 == 0 || o.Fields[examined] == 0 || slices.Contains(marked, o.Fields[examined])) {
		examined++
	}
	worker := p.Below(len(m.Hands))
	switch {
	case examined == o.N && p.Below(3) > 0:
	case m.Hands[worker].Obj == 0 && p.Below(2) == 0:
		m.Hands[worker] = api.Hand{Obj: o.Addr, Field: p.Below(examined + 1)}
	default:
		q := m.Grey.Queues[worker]
		m.Grey.Queues[worker] = slices.Insert(q, p.Below(len(q)+1), o.Addr)
	}
}

// SweptHeaps returns valid heaps all of whose spans are Swept.
func SweptHeaps(n int) []api.Heap {
	out := []api.Heap{FourLists(), ThreeLinked(), ThreeObjects(), SixObjects()}
	p := Picks(41)
	for i := range n {
		out = append(out, AllSwept(Web(&p, i%14)))
	}
	return out
}

// WorkerNumbers returns numbers of workers that there may be, and numbers that are none.
func WorkerNumbers() []int {
	return append(Ints(), -5, -2, -1, 0, 1, 2, 3, 4, 5, 6, 64, 1<<32+1, math.MinInt+2)
}

// Crews returns lists of workers that may be told to run, of whom there are n, with numbers that are none among them.
func Crews(p *Picks, n int) [][]int {
	out := [][]int{nil, {0}, {n - 1}, {n - 1, 0}, {0, 0}, {0, n}, {-1}, {n}, {math.MaxInt, 0}, {0, math.MinInt}, {1 << 32}}
	for range 3 {
		var l []int
		for range 1 + p.Below(5) {
			l = append(l, p.Below(n))
		}
		out = append(out, l)
	}
	return out
}
