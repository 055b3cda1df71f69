package sweep_test

import (
	"slices"

	"besom/api"
	"besom/barrier"
	"besom/reach"
	"besom/sample"
)

// What the chapter's words say of sweeping, written down once more, and without regard for speed.

var same = sample.SameGcs

// slotWords are the words of a slot.
func slotWords(s api.Span) int {
	return max(s.Size, s.Pages*16/s.Alloc.N)
}

// stepped is what a step makes of a collected heap in PhaseSweep, and what it frees.
func stepped(g api.Gc) (api.Gc, []uint64) {
	out := sample.CopyGc(g)
	h := &out.Marker.Heap
	var freed []uint64
	if at := slices.IndexFunc(h.Spans, func(s api.Span) bool { return !s.Swept }); at >= 0 {
		s := &h.Spans[at]
		for slot := range s.Alloc.N {
			if s.Alloc.W[0]>>slot&1 == 1 && s.Mark.W[0]>>slot&1 == 0 {
				addr := s.First*16 + slot*s.Size
				clear(h.Arena.Words[addr:][:slotWords(*s)])
				freed = append(freed, uint64(addr))
			}
		}
		s.Alloc.W[0] = s.Mark.W[0]
		s.Swept = true
		if s.Alloc.W[0] == 0 {
			for page := s.First; page < s.First+s.Pages; page++ {
				h.Pages.Used.W[page/64] &^= 1 << (page % 64)
			}
			h.Spans = slices.Delete(h.Spans, at, at+1)
		}
	}
	if sample.AllAreSwept(*h) {
		out.Phase = api.PhaseIdle
	}
	return out, freed
}

// swept is what Sweep answers.
func swept(g api.Gc) (api.Gc, []uint64, api.Errno) {
	if g.Phase != api.PhaseSweep {
		return g, nil, api.ErrState
	}
	out, freed := stepped(g)
	return out, freed, api.OK
}

// sweptAll is what All answers.
func sweptAll(g api.Gc) (api.Gc, []uint64, api.Errno) {
	if g.Phase != api.PhaseSweep {
		return g, nil, api.ErrState
	}
	var all []uint64
	for g.Phase == api.PhaseSweep {
		out, freed := stepped(g)
		g, all = out, append(all, freed...)
	}
	return g, all, api.OK
}

// rest is what Rest answers.
func rest(g api.Gc) int {
	n := 0
	for _, s := range g.Marker.Heap.Spans {
		if !s.Swept {
			n++
		}
	}
	return n
}

// made is what Alloc answers, and how many steps it takes.
func made(g api.Gc, s api.Shape) (api.Gc, uint64, int, api.Errno) {
	out := g
	for steps := 0; ; steps++ {
		m, addr, why := barrier.New(out.Marker, s)
		if why == api.OK {
			out.Marker = m
			return out, addr, steps, api.OK
		}
		if why != api.ErrFull || out.Phase != api.PhaseSweep {
			return g, 0, steps, why
		}
		out, _ = stepped(out)
	}
}

// accounted is what Account answers.
func accounted(g api.Gc) api.Account {
	h := g.Marker.Heap
	a := api.Account{Pages: len(h.Arena.Words) / 16, Objects: len(sample.Objects(h))}
	for page := range a.Pages {
		if h.Pages.Used.W[page/64]>>(page%64)&1 == 0 {
			a.Free++
		}
	}
	for _, s := range h.Spans {
		a.Spans += s.Pages
	}
	return a
}

// small are the collected heaps of the sample that a test may try again and again.
func small() []api.Gc {
	return slices.DeleteFunc(sample.Gcs(), func(g api.Gc) bool { return len(g.Marker.Heap.Spans) > 100 })
}

// gcs are valid collected heaps in all phases, most of them in PhaseSweep, with small heaps.
func gcs(n int) []api.Gc {
	out := append(small(), busy())
	p := sample.Picks(71)
	for i := range n {
		g := sample.SomeGc(&p, i%10, 1+i%4)
		if i%4 > 0 {
			g = toSweep(&p, g)
		}
		out = append(out, g)
	}
	return out
}

// toSweep is what is left of a collected heap in PhaseSweep, some of whose spans were swept since, if there is any marking to be ended.
func toSweep(p *sample.Picks, g api.Gc) api.Gc {
	g.Queue = g.Queue[:min(len(g.Queue), 100)]
	// No heap of these takes as many steps; one that does stays as it is, and the tests tell.
	for steps := 0; g.Marker.On && steps < 200; steps++ {
		g.Marker = sample.Settled(g.Marker)
		g, _, _ = reach.Finish(g)
	}
	for range p.Below(4) {
		if g.Phase == api.PhaseSweep && rest(g) > 1 {
			g, _ = stepped(g)
		}
	}
	return g
}

// busy is in PhaseSweep, with something of all kinds: the first span was swept, and of the others, one goes, one loses two of its objects, and one keeps all.
func busy() api.Gc {
	l := []api.Span{
		sample.Span(1, 1, 4, 5, 1), sample.Unswept(sample.Span(2, 2, 0, 1, 0)), sample.Unswept(sample.Span(4, 1, 2, 0x8e, 6)), sample.Unswept(sample.Span(6, 1, 8, 3, 3)),
	}
	h := sample.Heap(8, l,
		sample.Object{Addr: 16, N: 3, Mask: 3, Fields: []uint64{24, 66, 66}}, sample.Object{Addr: 24, N: 2, Mask: 2, Fields: []uint64{16, 96}},
		sample.Object{Addr: 32, N: 20, Mask: 1, Fields: []uint64{70}},
		sample.Object{Addr: 66, N: 1, Mask: 1, Fields: []uint64{66}}, sample.Object{Addr: 68, N: 1, Fields: []uint64{70}},
		sample.Object{Addr: 70, N: 1, Mask: 1, Fields: []uint64{32}}, sample.Object{Addr: 78, N: 1, Mask: 1, Fields: []uint64{78}},
		sample.Object{Addr: 96, N: 7, Mask: 1, Fields: []uint64{104}}, sample.Object{Addr: 104, N: 4, Mask: 15, Fields: []uint64{16, 24, 66, 96}})
	g := sample.Gc(api.PhaseSweep, sample.Off(h, 3))
	g.Table = sample.Without(sample.Pairs(8, 16, 66, 24, 0, 96, 104), 24)
	g.Specials = []api.Special{sample.Cleanup(24, 1), sample.Final(66, 2)}
	g.Weak = []uint64{0, 104, 16}
	g.Queue = []api.Item{sample.FinalItem(96, 3), sample.CleanItem(4)}
	return g
}

// shapes are shapes of objects of all sizes, and some that are none.
func shapes() []api.Shape {
	return []api.Shape{{}, {N: 1, Mask: 1}, {N: 2}, {N: 3, Mask: 7}, {N: 4}, {N: 7, Mask: 65}, {N: 8, Mask: 1}, {N: 15}, {N: 16}, {N: 31, Mask: 1 << 30}, {N: 32}, {N: 47}, {N: 48, Mask: 1<<48 - 1},
		{N: -1}, {N: 49}, {N: 2, Mask: 4}, {N: 1 << 32}, {N: 48, Mask: 1 << 48}}
}
