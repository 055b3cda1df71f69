package cache_test

import (
	"testing"

	"besom/api"
	"besom/barrier"
	"besom/cache"
	"besom/reach"
	"besom/sample"
	"besom/sweep"
)

// event is something that happens to a cache: New of an object, if there is one, or something else.
type event struct {
	before, after api.Cache
	what          string
	who           int
	shape         api.Shape
	addr          uint64
	why           api.Errno
}

// walk lets things happen to a cache, one after the other, as it comes, and hands each of them to visit.
func walk(p *sample.Picks, c api.Cache, steps int, visit func(e event)) {
	for range steps {
		e := event{before: c, what: "New", who: p.Below(len(c.Spans))}
		switch p.Below(24) {
		case 0:
			e.what = "Flush"
			e.after, e.why = cache.Flush(c, e.who)
		case 1, 2, 3:
			e.what = "Sweep"
			e.after, _, e.why = cache.Sweep(c)
		case 4, 5, 6:
			e.what = "Finish"
			e.after, _, e.why = cache.Finish(marked(p, c))
		default:
			e.shape = sample.SomeShape(p)
			e.after, e.addr, e.why = cache.New(c, e.who, e.shape)
		}
		visit(e)
		c = e.after
	}
}

// marked is a cache when what its marking leads to is marked: of the objects, some are roots. A collection begins, if there is none.
func marked(p *sample.Picks, c api.Cache) api.Cache {
	c = sample.CopyCache(c)
	if c.Gc.Phase == api.PhaseIdle {
		c.Gc, _ = reach.Start(c.Gc)
		for _, addr := range sample.Addrs(c.Gc.Marker.Heap) {
			if p.Below(3) == 0 {
				c.Gc.Marker, _, _ = barrier.Shade(c.Gc.Marker, 0, addr)
			}
		}
	}
	if c.Gc.Marker.On {
		c.Gc.Marker = sample.Settled(c.Gc.Marker)
	}
	return c
}

// 22.5

// TestRight: every function answers a valid cache if it was given one, however they follow one another.
func TestRight(t *testing.T) {
	p := sample.Picks(211)
	fine := map[string]int{}
	for i, c := range caches(60) {
		walk(&p, c, 60, func(e event) {
			if why := cache.Check(e.after); why != api.OK || !valid(e.after) || reach.Check(e.after.Gc) != api.OK {
				t.Fatalf("cache %d: %s answers one that is not valid", i, e.what)
			}
			if e.why == api.OK {
				fine[e.what]++
			}
		})
	}
	if fine["New"] < 1000 || fine["Flush"] < 100 || fine["Sweep"] < 100 || fine["Finish"] < 150 {
		t.Error(fine)
	}
}

// 22.6

// TestApart: a mutator allocates objects in no page that another one owns, and owns those in which it does, as long as they have a class.
func TestApart(t *testing.T) {
	p := sample.Picks(212)
	own, shared, large := 0, 0, 0
	for i, c := range caches(80) {
		last := map[int]int{}
		walk(&p, c, 60, func(e event) {
			if e.what != "New" || e.why != api.OK {
				return
			}
			page := int(e.addr / 16)
			before, after := ownerOf(e.before, page), ownerOf(e.after, page)
			switch {
			case classOf(e.shape.N) < 0 && before == -1 && after == -1:
				large++
			case classOf(e.shape.N) < 0 || after != e.who || before >= 0 && before != e.who:
				t.Fatalf("cache %d: mutator %d allocates %v in page %d, which %d owned, and %d owns", i, e.who, e.shape, page, before, after)
			}
			if other, ok := last[page]; ok && other != e.who {
				shared++
			} else if ok {
				own++
			}
			last[page] = e.who
		})
	}
	// Pages go from one mutator to another one, but only when they are owned no more.
	if own < 200 || shared < 50 || large < 50 {
		t.Error(own, shared, large)
	}
}

// 22.7

// possible reports whether an object with a class can be allocated: once all is swept, a span that no other mutator owns has a slot for it, or there is a page for another span.
func possible(c api.Cache, who int, shape api.Shape) bool {
	g := c.Gc
	if g.Phase == api.PhaseSweep {
		g, _, _ = sweep.All(g)
	}
	for _, s := range g.Marker.Heap.Spans {
		owner := ownerOf(c, s.First)
		if s.Size == sizes[classOf(shape.N)] && gap(s) >= 0 && (owner < 0 || owner == who) {
			return true
		}
	}
	a, _ := sweep.Account(g)
	return a.Free > 0 && len(g.Marker.Heap.Spans) < 256
}

// TestAsWithout: there is room for an object if and only if there is in what no other mutator owns; for one without a class, what is owned is no matter.
func TestAsWithout(t *testing.T) {
	p := sample.Picks(213)
	counts := map[bool]int{}
	other := 0
	for i, c := range caches(150) {
		walk(&p, c, 40, func(e event) {
			if e.what != "New" {
				return
			}
			_, _, without := sweep.Alloc(e.before.Gc, e.shape)
			want := without == api.OK
			if classOf(e.shape.N) >= 0 {
				want = possible(e.before, e.who, e.shape)
			}
			if (e.why == api.OK) != want || e.why != api.OK && e.why != api.ErrFull {
				t.Fatalf("cache %d: %v for %d, error %d", i, e.shape, e.who, e.why)
			}
			if e.why == api.OK && without != api.OK {
				t.Fatalf("cache %d: %v for %d, where there is no room", i, e.shape, e.who)
			}
			counts[want]++
			if !want && without == api.OK {
				other++
			}
		})
	}
	if counts[true] < 1000 || counts[false] < 500 || other < 50 {
		t.Error(counts, other)
	}
}

// TestAlone: a mutator that owns nothing beside others that own nothing has room for all that there is room for without caches.
func TestAlone(t *testing.T) {
	p := sample.Picks(214)
	counts := map[api.Errno]int{}
	for i, c := range caches(150) {
		walk(&p, sample.Cache(c.Gc, sample.Nobody(1)...), 30, func(e event) {
			if e.what != "New" {
				return
			}
			if _, _, want := sweep.Alloc(e.before.Gc, e.shape); e.why != want {
				t.Fatalf("cache %d: %v, error %d, and %d without", i, e.shape, e.why, want)
			}
			counts[e.why]++
		})
	}
	if counts[api.OK] < 1000 || counts[api.ErrFull] < 500 {
		t.Error(counts)
	}
}
