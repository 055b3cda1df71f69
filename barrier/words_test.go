package barrier_test

import (
	"slices"

	"besom/api"
	"besom/grey"
	"besom/heap"
	"besom/sample"
)

// What the chapter's words say of markers, written down once more, and without regard for speed.

var same = sample.SameMarkers

// greys are the addresses in queues and hands.
func greys(m api.Marker) []uint64 {
	l := slices.Concat(m.Grey.Queues...)
	for _, h := range m.Hands {
		if h.Obj != 0 {
			l = append(l, h.Obj)
		}
	}
	return l
}

func isMarked(m api.Marker, addr uint64) bool {
	return slices.Contains(sample.Marked(m.Heap), addr)
}

func fieldsOf(m api.Marker, addr uint64) int {
	for _, o := range sample.Objects(m.Heap) {
		if o.Addr == addr {
			return o.N
		}
	}
	return -1
}

// valid reports whether a marker is valid.
func valid(m api.Marker) bool {
	if heap.Check(m.Heap) != api.OK || grey.Check(m.Grey) != api.OK || len(m.Hands) != len(m.Grey.Queues) {
		return false
	}
	if !m.On {
		return len(greys(m)) == 0 && !slices.ContainsFunc(m.Hands, func(h api.Hand) bool { return h != api.Hand{} })
	}
	for _, s := range m.Heap.Spans {
		if !s.Swept {
			return false
		}
	}
	return placed(m) && blacksRight(m)
}

// placed reports whether what is in queues and hands may be there.
func placed(m api.Marker) bool {
	l := greys(m)
	for i, addr := range l {
		if !isMarked(m, addr) || slices.Contains(l[:i], addr) {
			return false
		}
	}
	for _, h := range m.Hands {
		if h.Obj == 0 && h.Field != 0 || h.Obj != 0 && (h.Field < 0 || h.Field > fieldsOf(m, h.Obj)) {
			return false
		}
	}
	return true
}

// blacksRight reports whether no field of a black object, and none before Field of an object in a hand, refers to a white one.
func blacksRight(m api.Marker) bool {
	for _, o := range sample.Objects(m.Heap) {
		examined := o.N
		if !isMarked(m, o.Addr) || slices.Contains(greys(m), o.Addr) {
			examined = 0
		}
		for _, h := range m.Hands {
			if h.Obj == o.Addr {
				examined = h.Field
			}
		}
		if isMarked(m, o.Addr) && !onlyDark(m, o, examined) {
			return false
		}
	}
	return true
}

func onlyDark(m api.Marker, o sample.Object, examined int) bool {
	for i := range examined {
		if o.Mask>>i&1 == 1 && o.Fields[i] != 0 && !isMarked(m, o.Fields[i]) {
			return false
		}
	}
	return true
}

func isWorker(m api.Marker, worker int) bool {
	return worker >= 0 && worker < len(m.Hands)
}

// started is what Start answers.
func started(m api.Marker) (api.Marker, api.Errno) {
	if m.On {
		return m, api.ErrState
	}
	for _, s := range m.Heap.Spans {
		if !s.Swept {
			return m, api.ErrState
		}
	}
	out := sample.CopyMarker(m)
	out.On, out.Heap = true, sample.Marks(m.Heap)
	return out, api.OK
}

// stopped is what Stop answers.
func stopped(m api.Marker) (api.Marker, api.Errno) {
	if !m.On || len(greys(m)) > 0 {
		return m, api.ErrState
	}
	out := sample.CopyMarker(m)
	out.On = false
	for i := range out.Heap.Spans {
		out.Heap.Spans[i].Swept = false
	}
	return out, api.OK
}

// shadow shades objects that exist.
func shadow(m api.Marker, worker int, addrs ...uint64) (api.Marker, int) {
	out, n := sample.CopyMarker(m), 0
	for _, addr := range addrs {
		if addr == 0 || isMarked(out, addr) {
			continue
		}
		out.Heap = sample.Marks(out.Heap, append(sample.Marked(out.Heap), addr)...)
		out.Grey.Queues[worker] = append(out.Grey.Queues[worker], addr)
		n++
	}
	return out, n
}

// shaded is what Shade answers.
func shaded(m api.Marker, worker int, addrs []uint64) (api.Marker, int, api.Errno) {
	if !isWorker(m, worker) {
		return m, 0, api.ErrTask
	}
	if !m.On {
		return m, 0, api.ErrState
	}
	for _, addr := range addrs {
		if _, why := heap.At(m.Heap, addr); addr != 0 && why != api.OK {
			return m, 0, why
		}
	}
	out, n := shadow(m, worker, addrs...)
	return out, n, api.OK
}

// written is what Write answers.
func written(m api.Marker, worker int, addr uint64, field int, w uint64, ref bool) (api.Marker, api.Errno) {
	if !isWorker(m, worker) {
		return m, api.ErrTask
	}
	h, why := heap.Store(m.Heap, addr, field, w, ref)
	if why != api.OK {
		return m, why
	}
	out := sample.CopyMarker(m)
	if m.On && ref {
		before, _, _ := heap.Load(m.Heap, addr, field)
		out, _ = shadow(m, worker, before, w)
		h, _ = heap.Store(out.Heap, addr, field, w, ref)
	}
	out.Heap = h
	return out, api.OK
}

// made is what New answers.
func made(m api.Marker, s api.Shape) (api.Marker, uint64, api.Errno) {
	h, addr, why := heap.New(m.Heap, s, m.On)
	if why != api.OK {
		return m, 0, why
	}
	out := sample.CopyMarker(m)
	out.Heap = h
	return out, addr, api.OK
}

// chapter is the marker of the chapter's examples, after Start and Shade.
func chapter() api.Marker {
	return sample.On(sample.Marks(sample.FourLists(), 16), make([]api.Hand, 2), []uint64{16})
}

// busy has black, grey and white objects, some of the grey ones in hands, and some numbers.
func busy() api.Marker {
	h := sample.Heap(8, []api.Span{sample.Span(1, 1, 4, 15, 7), sample.Span(2, 1, 2, 0xe, 6), sample.Span(4, 2, 0, 1, 1)},
		sample.Object{Addr: 16, N: 3, Mask: 3, Fields: []uint64{20, 34, 28}}, sample.Object{Addr: 20, N: 2, Mask: 2, Fields: []uint64{16, 28}},
		sample.Object{Addr: 24, N: 3, Mask: 6, Fields: []uint64{38, 64, 38}}, sample.Object{Addr: 28, N: 2, Mask: 3, Fields: []uint64{16, 38}},
		sample.Object{Addr: 34, N: 1, Mask: 1}, sample.Object{Addr: 36, N: 1, Fields: []uint64{38}},
		sample.Object{Addr: 38, N: 1, Mask: 1, Fields: []uint64{28}}, sample.Object{Addr: 64, N: 17, Mask: 1, Fields: []uint64{28}})
	return sample.On(h, []api.Hand{{}, {Obj: 24, Field: 2}, {}}, []uint64{36, 20}, nil, []uint64{64})
}

// small are the markers of the sample that a test may try again and again.
func small() []api.Marker {
	return slices.DeleteFunc(sample.Markers(), func(m api.Marker) bool { return len(m.Heap.Spans) > 100 })
}

// markers are valid markers of all kinds, with small heaps.
func markers(n int) []api.Marker {
	out := append(small(), chapter(), busy())
	p := sample.Picks(11)
	for i := range n {
		out = append(out, sample.SomeMarker(&p, i%10, 1+i%4))
	}
	return out
}

// addrsOf are addresses of objects of a marker's heap, and others that are near to them or far away.
func addrsOf(m api.Marker) []uint64 {
	out := []uint64{0, 1, 16, 17, 1 << 32, 1<<32 + 16, 1<<60 + 16, 1 << 63, 1<<64 - 1}
	for _, s := range m.Heap.Spans {
		out = append(out, uint64(s.First*16), uint64(s.First*16+s.Size), uint64(s.First*16+1))
	}
	for _, o := range sample.Objects(m.Heap) {
		out = append(out, o.Addr)
	}
	return out
}
