package sample

import (
	"math"
	"slices"

	"besom/api"
)

// Cache returns a cache in which mutators own these spans: for each mutator the first pages, class by class. It does not ask whether it is valid.
func Cache(g api.Gc, owned ...[]int) api.Cache {
	return CopyCache(api.Cache{Gc: g, Spans: owned, Hits: make([]uint64, len(owned)), Misses: make([]uint64, len(owned))})
}

// Nobody returns what so many mutators own that own nothing.
func Nobody(mutators int) [][]int {
	return slices.Repeat([][]int{{0, 0, 0, 0}}, mutators)
}

// CopyOwned returns what mutators own with memory of its own.
func CopyOwned(l [][]int) [][]int {
	l = slices.Clone(l)
	for i, own := range l {
		l[i] = slices.Clone(own)
	}
	return l
}

// CopyCache returns the cache with memory of its own.
func CopyCache(c api.Cache) api.Cache {
	c.Gc = CopyGc(c.Gc)
	c.Spans = CopyOwned(c.Spans)
	c.Hits = slices.Clone(c.Hits)
	c.Misses = slices.Clone(c.Misses)
	return c
}

// SameCaches reports whether two caches are alike; a nil list is an empty one.
func SameCaches(a, b api.Cache) bool {
	return SameGcs(a.Gc, b.Gc) && slices.EqualFunc(a.Spans, b.Spans, slices.Equal) && slices.Equal(a.Hits, b.Hits) && slices.Equal(a.Misses, b.Misses)
}

// SpoilsOfCache returns functions each of which changes one list of a cache, and all that lies behind its end.
func SpoilsOfCache(c api.Cache) []func() {
	out := append(SpoilsOfGc(c.Gc), spoil(c.Spans, func(own *[]int) { *own = []int{1000} }), SpoilWords(c.Hits), SpoilWords(c.Misses))
	for _, own := range c.Spans {
		out = append(out, spoil(own, func(first *int) { *first += 1000 }))
	}
	return out
}

// RoomyCache returns a cache in memory that goes on behind its lists, where a careless append would write to, and a function that reports whether what lies there is as it was.
func RoomyCache(c api.Cache) (api.Cache, func() bool) {
	c = CopyCache(c)
	g, rest := RoomyGc(c.Gc)
	c.Gc = g
	rests := []func() bool{rest, extend(&c.Hits, 77), extend(&c.Misses, 77)}
	for i := range c.Spans {
		rests = append(rests, extend(&c.Spans[i], 77))
	}
	rests = append(rests, extendBy(&c.Spans, []int{77}, func(own []int) bool { return slices.Equal(own, []int{77}) }))
	return c, every(rests)
}

// WovenCaches returns valid caches whose lists share memory, in each phase.
func WovenCaches() []api.Cache {
	var out []api.Cache
	for _, g := range WovenGcs() {
		none, counts := []int{0, 0, 0, 0, 0}, []uint64{16, 18, 20}
		g.Weak = counts[:2]
		out = append(out,
			api.Cache{Gc: g, Spans: [][]int{none[:4], none[1:], none[:4]}, Hits: counts, Misses: counts},
			api.Cache{Gc: g, Spans: [][]int{none[:4], {1, 0, 0, 0}}, Hits: counts[:2], Misses: counts[1:]})
	}
	return out
}

// classOf returns the class of the slots of a span, or -1.
func classOf(s api.Span) int {
	return slices.Index([]int{2, 4, 8, 16}, s.Size)
}

// Owners returns what mutators own when each span that may be owned is, with a chance of one in rare, owned by one of them, who has no other of its class.
func Owners(p *Picks, h api.Heap, mutators, rare int) [][]int {
	out := CopyOwned(Nobody(mutators))
	for _, s := range h.Spans {
		own := out[p.Below(mutators)]
		if c := classOf(s); c >= 0 && s.Swept && own[c] == 0 && p.Below(rare) == 0 {
			own[c] = s.First
		}
	}
	return out
}

// SomeCache returns a valid cache of the collected heap, which has to be valid, with so many mutators.
func SomeCache(p *Picks, g api.Gc, mutators int) api.Cache {
	c := Cache(g, Owners(p, g.Marker.Heap, mutators, 1+p.Below(3))...)
	for who := range c.Spans {
		c.Hits[who], c.Misses[who] = p.Word(), uint64(p.Below(9))
	}
	return c
}

// Caches returns valid caches: one for each collected heap of Gcs, and some in which all is owned that may be.
func Caches() []api.Cache {
	p := Picks(191)
	var out []api.Cache
	for i, g := range Gcs() {
		out = append(out, SomeCache(&p, g, 1+i%4))
	}
	out = append(out, Cache(FourSizes(), []int{1, 2, 3, 4}), Cache(FourSizes(), []int{0, 8, 0, 4}, []int{0, 2, 0, 0}, []int{1, 0, 0, 0}, []int{0, 0, 3, 0}))
	out[len(out)-1].Hits[2], out[len(out)-1].Misses[3] = math.MaxUint64, math.MaxUint64
	return out
}

// SmallCaches returns those of Caches that a test may try again and again.
func SmallCaches() []api.Cache {
	return slices.DeleteFunc(Caches(), func(c api.Cache) bool { return len(c.Gc.Marker.Heap.Spans) > 100 })
}

// FourSizes is a collected heap in PhaseSweep with spans of all sizes: those at the pages 1 to 5 and 8 are Swept, and the one at 7 is not. Pages 5 and 6 are one span.
func FourSizes() api.Gc {
	l := []api.Span{
		Span(1, 1, 2, 1, 0), Span(2, 1, 4, 5, 0), Span(3, 1, 8, 3, 1), Span(4, 1, 16, 0, 0),
		Span(5, 2, 0, 1, 1), Unswept(Span(7, 1, 4, 7, 2)), Span(8, 1, 4, 8, 8),
	}
	h := Heap(10, l,
		Object{Addr: 16, N: 1, Mask: 1, Fields: []uint64{32}}, Object{Addr: 32, N: 2, Mask: 2, Fields: []uint64{7, 116}}, Object{Addr: 40, N: 3},
		Object{Addr: 48, N: 4}, Object{Addr: 56, N: 7, Mask: 64, Fields: []uint64{6: 140}}, Object{Addr: 80, N: 20, Mask: 1, Fields: []uint64{16}},
		Object{Addr: 112, N: 3, Mask: 1, Fields: []uint64{120}}, Object{Addr: 116, N: 2, Mask: 1, Fields: []uint64{16}}, Object{Addr: 120, N: 2}, Object{Addr: 140, N: 2})
	return Gc(api.PhaseSweep, Off(h, 2))
}

// BadCaches returns caches that are not valid, each for a reason of its own.
func BadCaches() []api.Cache {
	bad := []api.Cache{{}, {Gc: FourSizes()}, {Spans: Nobody(1), Hits: make([]uint64, 1), Misses: make([]uint64, 1)}}
	for i, g := range BadGcs() {
		bad = append(bad, Cache(g, Nobody(1+i%4)...))
	}
	return slices.Concat(bad, badCounts(), badOwned())
}

// badCounts are caches with fewer or more mutators, counts or classes than there may be.
func badCounts() []api.Cache {
	var bad []api.Cache
	for _, n := range []int{0, 5, 6, 64, 1000} {
		bad = append(bad, Cache(FourSizes(), Nobody(n)...))
	}
	for _, n := range []int{0, 1, 3, 4, 5, 1000} {
		hits, misses := Cache(FourSizes(), Nobody(2)...), Cache(FourSizes(), Nobody(2)...)
		hits.Hits, misses.Misses = make([]uint64, n), make([]uint64, n)
		both := CopyCache(hits)
		both.Misses = make([]uint64, n)
		bad = append(bad, hits, misses, both)
	}
	for _, n := range []int{0, 1, 3, 5, 8, 1000} {
		bad = append(bad, Cache(FourSizes(), make([]int, n)), Cache(FourSizes(), []int{0, 0, 0, 4}, make([]int, n)), Cache(FourSizes(), make([]int, n), []int{1, 0, 0, 0}))
	}
	return bad
}

// badOwned are caches in which a mutator owns what it may not, or what another one owns.
func badOwned() []api.Cache {
	right := []int{1, 2, 3, 4}
	var bad []api.Cache
	for class := range right {
		for _, first := range []int{1, 2, 3, 4, 5, 6, 7, 8, 9, 10, 16, 17, 32, 1024, -1, -2, 1<<32 + 2, math.MinInt, math.MinInt + 1, math.MaxInt} {
			if first == right[class] || first == 8 && class == 1 {
				continue
			}
			own := []int{0, 0, 0, 0}
			own[class] = first
			bad = append(bad, Cache(FourSizes(), own), Cache(FourSizes(), []int{0, 0, 0, 0}, own, []int{0, 0, 0, 0}))
		}
		own := []int{0, 0, 0, 0}
		own[class] = right[class]
		bad = append(bad, Cache(FourSizes(), own, own), Cache(FourSizes(), own, []int{0, 8, 0, 0}, right), Cache(FourSizes(), right, right))
	}
	return bad
}
