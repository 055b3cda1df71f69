package mark_test

import (
	"slices"

	"besom/api"
	"besom/sample"
)

// What the chapter's words say of marking, written down once more, and without regard for speed.

var same = sample.SameMarkers

func isWorker(m api.Marker, worker int) bool {
	return worker >= 0 && worker < len(m.Hands)
}

// left reports whether something is in a queue or a hand.
func left(m api.Marker) bool {
	return len(slices.Concat(m.Grey.Queues...)) > 0 || slices.ContainsFunc(m.Hands, func(h api.Hand) bool { return h.Obj != 0 })
}

// scanned is what Scan answers.
func scanned(m api.Marker, worker int) (api.Marker, api.Errno) {
	if !isWorker(m, worker) {
		return m, api.ErrTask
	}
	if !m.On {
		return m, api.ErrState
	}
	out := sample.CopyMarker(m)
	hand := &out.Hands[worker]
	if hand.Obj == 0 {
		if len(slices.Concat(m.Grey.Queues...)) == 0 {
			return m, api.ErrNone
		}
		*hand = api.Hand{Obj: sample.Popped(out.Grey, worker)}
		return out, api.OK
	}
	for _, o := range sample.Objects(out.Heap) {
		if o.Addr == hand.Obj {
			examine(&out, o, worker)
			break
		}
	}
	return out, api.OK
}

// examine examines the next field of the object in a worker's hand.
func examine(m *api.Marker, o sample.Object, worker int) {
	hand := &m.Hands[worker]
	for i := hand.Field; i < o.N; i++ {
		if o.Mask>>i&1 == 0 {
			continue
		}
		marked := sample.Marked(m.Heap)
		if w := o.Fields[i]; w != 0 && !slices.Contains(marked, w) {
			m.Heap = sample.Marks(m.Heap, append(marked, w)...)
			m.Grey.Queues[worker] = append(m.Grey.Queues[worker], w)
		}
		hand.Field = i + 1
		return
	}
	*hand = api.Hand{}
}

// ran is what Run answers.
func ran(m api.Marker, workers []int) (api.Marker, int, api.Errno) {
	if !m.On {
		return m, 0, api.ErrState
	}
	if slices.ContainsFunc(workers, func(worker int) bool { return !isWorker(m, worker) }) {
		return m, 0, api.ErrTask
	}
	var all []int
	for worker := range m.Hands {
		all = append(all, worker)
	}
	if len(workers) == 0 {
		workers = all
	}
	n := 0
	for out := m; ; {
		if !left(out) {
			return out, n, api.OK
		}
		after, steps := round(out, workers, len(workers))
		if steps == 0 {
			after, steps = round(out, all, 1)
		}
		out, n = after, n+steps
	}
}

// round executes a step of each of the workers, but no more than so many.
func round(m api.Marker, workers []int, most int) (api.Marker, int) {
	n := 0
	for _, worker := range workers {
		after, why := scanned(m, worker)
		if why == api.OK && n < most {
			m, n = after, n+1
		}
	}
	return m, n
}

// chapter is the marker of the chapter's examples: a is in the queue of worker 1.
func chapter() api.Marker {
	return sample.On(sample.Marks(sample.ThreeLinked(), 16), make([]api.Hand, 2), nil, []uint64{16})
}

// busy has black, grey and white objects, some of the grey ones in hands, and some numbers.
func busy() api.Marker {
	h := sample.Heap(8, []api.Span{sample.Span(1, 1, 4, 15, 7), sample.Span(2, 1, 2, 0xe, 6), sample.Span(4, 2, 0, 1, 1)},
		sample.Object{Addr: 16, N: 3, Mask: 3, Fields: []uint64{20, 34, 28}}, sample.Object{Addr: 20, N: 2, Mask: 2, Fields: []uint64{16, 28}},
		sample.Object{Addr: 24, N: 3, Mask: 6, Fields: []uint64{38, 64, 38}}, sample.Object{Addr: 28, N: 2, Mask: 3, Fields: []uint64{16, 38}},
		sample.Object{Addr: 34, N: 1, Mask: 1}, sample.Object{Addr: 36, N: 1, Fields: []uint64{38}},
		sample.Object{Addr: 38, N: 1, Mask: 1, Fields: []uint64{28}}, sample.Object{Addr: 64, N: 17, Mask: 1, Fields: []uint64{28}})
	return sample.On(h, []api.Hand{{}, {Obj: 24, Field: 2}, {}}, []uint64{36, 20}, nil, []uint64{64})
}

// small are the markers of the sample that a test may try again and again.
func small() []api.Marker {
	return slices.DeleteFunc(sample.Markers(), func(m api.Marker) bool { return len(m.Heap.Spans) > 100 })
}

// markers are valid markers of all kinds, with small heaps.
func markers(n int) []api.Marker {
	out := append(small(), chapter(), busy())
	p := sample.Picks(31)
	for i := range n {
		out = append(out, sample.SomeMarker(&p, i%10, 1+i%4))
	}
	return out
}
