package queue_test

import (
	"slices"

	"besom/api"
	"besom/sample"
)

// What the chapter's words say of the queue, written down once more, and without regard for speed.

var same = sample.SameGcs

// like reports whether the same items were run alike.
func like(a, b []api.Ran) bool {
	return slices.EqualFunc(a, b, sample.SameRan)
}

// next is what Next answers.
func next(g api.Gc) (api.Item, api.Errno) {
	for _, item := range g.Queue {
		return item, api.OK
	}
	return api.Item{}, api.ErrNone
}

// run is what Run answers.
func run(g api.Gc) (api.Gc, api.Ran, api.Errno) {
	item, why := next(g)
	if why != api.OK {
		return g, api.Ran{}, why
	}
	ran := api.Ran{Item: item}
	for _, o := range sample.Objects(g.Marker.Heap) {
		if o.Addr == item.Addr {
			ran.Fields = o.Fields
		}
	}
	out := sample.CopyGc(g)
	out.Queue = slices.Delete(out.Queue, 0, 1)
	return out, ran, api.OK
}

// drain is what Drain answers.
func drain(g api.Gc) (api.Gc, []api.Ran) {
	var all []api.Ran
	for {
		out, ran, why := run(g)
		if why != api.OK {
			return g, all
		}
		g, all = out, append(all, ran)
	}
}

// many is what Many answers.
func many(g api.Gc, kinds []api.SpecialKind) int {
	n := 0
	for _, item := range g.Queue {
		if slices.Index(kinds, item.Kind) >= 0 {
			n++
		}
	}
	return n
}

// small are the collected heaps of the sample that a test may try again and again.
func small() []api.Gc {
	return slices.DeleteFunc(sample.Gcs(), func(g api.Gc) bool { return len(g.Marker.Heap.Spans) > 100 })
}

// gcs are valid collected heaps in all phases, with small heaps and queues of any length.
func gcs(n int) []api.Gc {
	out := append(small(), busy(), sample.ThreeItems())
	p := sample.Picks(101)
	for i := range n {
		out = append(out, sample.SomeGc(&p, i%10, 1+i%4))
	}
	return out
}

// busy is in PhaseSweep, with something of all kinds, and items of objects of all sizes, one of which waits twice. The object at 20 is not current.
func busy() api.Gc {
	l := []api.Span{sample.Unswept(sample.Span(1, 1, 4, 3, 1)), sample.Span(2, 1, 2, 3, 0), sample.Unswept(sample.Span(4, 4, 0, 1, 1))}
	h := sample.Heap(9, l,
		sample.Object{Addr: 16, N: 3, Mask: 5, Fields: []uint64{32, 20, 64}}, sample.Object{Addr: 20, N: 3, Fields: []uint64{1, 2, 3}},
		sample.Object{Addr: 32, N: 1, Mask: 1, Fields: []uint64{32}}, sample.Object{Addr: 34},
		sample.Object{Addr: 64, N: 48, Mask: 1<<48 - 1, Fields: slices.Repeat([]uint64{16, 0, 64}, 16)})
	g := sample.Gc(api.PhaseSweep, sample.Off(h, 2))
	g.Table = sample.Without(sample.Pairs(8, 16, 64, 32, 0), 32)
	g.Specials = []api.Special{sample.Cleanup(16, 1), sample.Final(16, 2)}
	g.Weak = []uint64{0, 34, 16}
	g.Queue = []api.Item{
		sample.FinalItem(64, 1), sample.CleanItem(2), sample.FinalItem(16, 3), sample.FinalItem(34, 4),
		sample.CleanItem(2), sample.FinalItem(16, 3), sample.CleanItem(1 << 63), sample.FinalItem(32, 0),
	}
	return g
}
