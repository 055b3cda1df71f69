package cache_test

import (
	"slices"

	"besom/api"
	"besom/reach"
	"besom/sample"
	"besom/sweep"
)

// What the chapter's words say of caches, written down once more, and without regard for speed.

var same = sample.SameCaches

// sizes are the words of a slot of each class.
var sizes = []int{2, 4, 8, 16}

// valid reports whether a cache is valid whose collected heap is.
func valid(c api.Cache) bool {
	n := len(c.Spans)
	if n == 0 || n > 4 || len(c.Hits) != n || len(c.Misses) != n {
		return false
	}
	var all []int
	for _, own := range c.Spans {
		if len(own) != 4 {
			return false
		}
		for class, first := range own {
			if first == 0 {
				continue
			}
			if slices.Contains(all, first) {
				return false
			}
			all = append(all, first)
			right := func(s api.Span) bool { return s.First == first && s.Swept && s.Size == sizes[class] }
			if !slices.ContainsFunc(c.Gc.Marker.Heap.Spans, right) {
				return false
			}
		}
	}
	return true
}

// classOf is the class of objects of so many fields, or -1.
func classOf(fields int) int {
	return slices.IndexFunc(sizes, func(size int) bool { return fields+1 <= size })
}

// ownerOf is the mutator that owns the span that begins at a page, or -1.
func ownerOf(c api.Cache, first int) int {
	for who, own := range c.Spans {
		for _, page := range own {
			if page == first {
				return who
			}
		}
	}
	return -1
}

// owner is what Owner answers.
func owner(c api.Cache, first int) (int, api.Errno) {
	for _, s := range c.Gc.Marker.Heap.Spans {
		if s.First == first {
			return ownerOf(c, first), api.OK
		}
	}
	return 0, api.ErrNone
}

// gap is the first slot of a span that is not allocated, or -1.
func gap(s api.Span) int {
	for slot := range s.Alloc.N {
		if s.Alloc.W[0]>>slot&1 == 0 {
			return slot
		}
	}
	return -1
}

// way is how an object is allocated: in a span that its mutator owns, in one that it acquires as it is, after some have been swept, or in a new one; or without a class.
type way int

const (
	none way = iota
	hit
	acquired
	swept
	grown
	large
	wayCount
)

// made is what New answers, and how the object was allocated.
func made(c api.Cache, who int, s api.Shape) (api.Cache, uint64, api.Errno, way) {
	if who < 0 || who >= len(c.Spans) {
		return c, 0, api.ErrTask, none
	}
	if s.N < 0 || s.N > 48 || s.Mask>>s.N > 0 {
		return c, 0, api.ErrForm, none
	}
	out := sample.CopyCache(c)
	class := classOf(s.N)
	if class < 0 {
		g, addr, why := sweep.Alloc(c.Gc, s)
		if why != api.OK {
			return c, 0, why, none
		}
		out.Gc = g
		out.Misses[who]++
		return out, addr, api.OK, large
	}
	at := slices.IndexFunc(out.Gc.Marker.Heap.Spans, func(s api.Span) bool { return s.First == out.Spans[who][class] && gap(s) >= 0 })
	how := hit
	if at < 0 {
		if at, how = acquire(&out, who, class); how == none {
			return c, 0, api.ErrFull, none
		}
		out.Misses[who]++
	} else {
		out.Hits[who]++
	}
	return out, put(&out.Gc, at, s), api.OK, how
}

// acquire makes a mutator own another span, and returns its place in the list, and how it was found.
func acquire(c *api.Cache, who, class int) (int, way) {
	c.Spans[who][class] = 0
	how := acquired
	for {
		for at, s := range c.Gc.Marker.Heap.Spans {
			if s.Size == sizes[class] && s.Swept && ownerOf(*c, s.First) < 0 && gap(s) >= 0 {
				c.Spans[who][class] = s.First
				return at, how
			}
		}
		if c.Gc.Phase != api.PhaseSweep {
			break
		}
		g, _, _ := sweep.Sweep(c.Gc)
		c.Gc, how = g, swept
	}
	h := &c.Gc.Marker.Heap
	for page := range h.Pages.Used.N {
		if h.Pages.Used.W[page/64]>>(page%64)&1 == 1 || len(h.Spans) >= 256 {
			continue
		}
		h.Pages.Used.W[page/64] |= 1 << (page % 64)
		at := 0
		for at < len(h.Spans) && h.Spans[at].First < page {
			at++
		}
		h.Spans = slices.Insert(h.Spans, at, sample.Span(page, 1, sizes[class], 0, 0))
		c.Spans[who][class] = page
		return at, grown
	}
	return 0, none
}

// put allocates an object in the first slot of a span that is not allocated.
func put(g *api.Gc, at int, shape api.Shape) uint64 {
	s := &g.Marker.Heap.Spans[at]
	slot := gap(*s)
	s.Alloc.W[0] |= 1 << slot
	if g.Phase == api.PhaseMark || g.Phase == api.PhaseLate {
		s.Mark.W[0] |= 1 << slot
	}
	addr := s.First*16 + slot*s.Size
	g.Marker.Heap.Arena.Words[addr] = sample.Header(shape.N, shape.Mask)
	return uint64(addr)
}

// flushed is what Flush answers.
func flushed(c api.Cache, who ...int) (api.Cache, api.Errno) {
	out := sample.CopyCache(c)
	for i := range out.Spans {
		if len(who) == 0 || slices.Contains(who, i) {
			out.Spans[i] = []int{0, 0, 0, 0}
		}
	}
	for _, i := range who {
		if i < 0 || i >= len(c.Spans) {
			return c, api.ErrTask
		}
	}
	return out, api.OK
}

// finished is what Finish answers.
func finished(c api.Cache) (api.Cache, int, api.Errno) {
	g, n, why := reach.Finish(c.Gc)
	if why != api.OK {
		return c, 0, why
	}
	out := sample.CopyCache(c)
	if g.Phase == api.PhaseSweep {
		out, _ = flushed(c)
	}
	out.Gc = g
	return out, n, api.OK
}

// cleaned is what Sweep answers.
func cleaned(c api.Cache) (api.Cache, []uint64, api.Errno) {
	g, freed, why := sweep.Sweep(c.Gc)
	if why != api.OK {
		return c, nil, why
	}
	out := sample.CopyCache(c)
	out.Gc = g
	return out, freed, api.OK
}

// caches are valid caches in all phases, with small heaps.
func caches(n int) []api.Cache {
	out := sample.SmallCaches()
	p := sample.Picks(201)
	for i := range n {
		g := sample.SomeGc(&p, i%12, 1+i%4)
		if i%3 == 0 {
			g = toSweep(&p, g)
		}
		out = append(out, sample.SomeCache(&p, g, 1+i/4%4))
	}
	return out
}

// toSweep is what is left of a collected heap in PhaseSweep, some of whose spans were swept since, if there is any marking to be ended.
func toSweep(p *sample.Picks, g api.Gc) api.Gc {
	g.Queue = g.Queue[:min(len(g.Queue), 100)]
	// No heap of these takes as many steps; one that does stays as it is, and the tests tell.
	for steps := 0; g.Marker.On && steps < 200; steps++ {
		g.Marker = sample.Settled(g.Marker)
		g, _, _ = reach.Finish(g)
	}
	for range p.Below(4) {
		if g.Phase == api.PhaseSweep {
			g, _, _ = sweep.Sweep(g)
		}
	}
	return g
}

// shapes are shapes of objects of all sizes, and some that are none.
func shapes() []api.Shape {
	return []api.Shape{
		{}, {N: 1, Mask: 1}, {N: 1}, {N: 2}, {N: 3, Mask: 7}, {N: 4}, {N: 7, Mask: 65}, {N: 8, Mask: 1}, {N: 15, Mask: 1<<15 - 1}, {N: 16}, {N: 31, Mask: 1 << 30}, {N: 32}, {N: 47}, {N: 48, Mask: 1<<48 - 1},
		{N: -1}, {N: 49}, {N: 2, Mask: 4}, {Mask: 1}, {N: 1 << 32}, {N: 48, Mask: 1 << 48},
	}
}

// mutators are numbers of mutators that there may be, and numbers that are none.
func mutators() []int {
	return append(sample.Ints(), -2, -1, 0, 1, 2, 3, 4, 5, 1<<32+1, 1<<60+1)
}
