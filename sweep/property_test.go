package sweep_test

import (
	"slices"
	"testing"

	"besom/api"
	"besom/class"
	"besom/heap"
	"besom/pages"
	"besom/reach"
	"besom/sample"
	"besom/sweep"
)

// walk calls functions on a collected heap, one after the other, as it comes, and hands what each of them answers to visit.
func walk(p *sample.Picks, g api.Gc, steps int, visit func(before, after api.Gc, freed []uint64, what string)) {
	for range steps {
		var after api.Gc
		var freed []uint64
		what := "Alloc"
		switch p.Below(12) {
		case 0:
			what = "All"
			after, freed, _ = sweep.All(g)
		case 1, 2, 3, 4:
			what = "Sweep"
			after, freed, _ = sweep.Sweep(g)
		default:
			n := p.Below(49)
			if p.Below(4) > 0 {
				n = p.Below(10)
			}
			after, _, _ = sweep.Alloc(g, api.Shape{N: n})
		}
		visit(g, after, freed, what)
		g = after
		if g.Phase == api.PhaseIdle && p.Below(2) == 0 {
			g = again(p, g)
		}
	}
}

// again is g in PhaseSweep once more: some objects are marked, as a collection from them does.
func again(p *sample.Picks, g api.Gc) api.Gc {
	var roots []uint64
	for _, addr := range sample.Addrs(g.Marker.Heap) {
		if p.Below(3) == 0 {
			roots = append(roots, addr)
		}
	}
	g, _ = reach.Start(g)
	g.Marker.Heap = sample.Marks(g.Marker.Heap, append(roots, sample.Marked(g.Marker.Heap)...)...)
	g.Marker.Grey.Queues[0] = sample.Marked(g.Marker.Heap)
	g.Specials = nil
	return toSweep(p, g)
}

// TestRight: every function answers a valid collected heap if it was given one, however they follow one another.
func TestRight(t *testing.T) {
	p := sample.Picks(81)
	calls := map[string]int{}
	for i, g := range gcs(60) {
		walk(&p, g, 40, func(before, after api.Gc, freed []uint64, what string) {
			if why := reach.Check(after); why != api.OK {
				t.Fatalf("heap %d: %s answers one that is not valid", i, what)
			}
			if !same(before, after) {
				calls[what]++
			}
		})
	}
	if calls["Sweep"] < 200 || calls["All"] < 50 || calls["Alloc"] < 500 {
		t.Error(calls)
	}
}

// 16.5

// TestPartition: the free pages, the pages of spans and page 0 are all pages, whatever is swept and allocated.
func TestPartition(t *testing.T) {
	p := sample.Picks(82)
	for i, g := range gcs(60) {
		walk(&p, g, 40, func(before, after api.Gc, freed []uint64, what string) {
			a, why := sweep.Account(after)
			if a.Free+a.Spans+1 != a.Pages || a.Pages != len(g.Marker.Heap.Arena.Words)/16 || why != api.OK {
				t.Fatalf("heap %d: after %s, %v, error %d", i, what, a, why)
			}
		})
	}
}

// 16.6

// TestKept: sweeping changes no current object; what it frees is not current, and was not, and its words are 0.
func TestKept(t *testing.T) {
	p := sample.Picks(83)
	var many int
	for i, g := range gcs(60) {
		walk(&p, g, 40, func(before, after api.Gc, freed []uint64, what string) {
			objects := sample.Objects(before.Marker.Heap)
			now := sample.Objects(after.Marker.Heap)
			if what == "Alloc" {
				now = slices.DeleteFunc(now, func(o sample.Object) bool { return !slices.Contains(sample.Addrs(before.Marker.Heap), o.Addr) })
			}
			if !slices.EqualFunc(objects, now, sameObject) {
				t.Fatalf("heap %d: %s makes %v of %v", i, what, now, objects)
			}
			for _, addr := range freed {
				_, was := heap.At(before.Marker.Heap, addr)
				if _, why := heap.At(after.Marker.Heap, addr); was != api.ErrDead || why != api.ErrDead || after.Marker.Heap.Arena.Words[addr] != 0 {
					t.Fatalf("heap %d: %s answers %d, at which there is an object", i, what, addr)
				}
			}
			many += len(freed)
		})
	}
	if many < 500 {
		t.Error(many)
	}
}

func sameObject(a, b sample.Object) bool {
	return a.Addr == b.Addr && a.N == b.N && a.Mask == b.Mask && slices.Equal(a.Fields, b.Fields)
}

// TestAllFreed: when the phase is PhaseIdle, exactly the marked objects are left, and what All answers is what was not marked.
func TestAllFreed(t *testing.T) {
	for i, g := range gcs(300) {
		if g.Phase != api.PhaseSweep {
			continue
		}
		var want []uint64
		for _, s := range g.Marker.Heap.Spans {
			for slot := range s.Alloc.N {
				if !s.Swept && (s.Alloc.W[0]&^s.Mark.W[0])>>slot&1 == 1 {
					want = append(want, uint64(s.First*16+slot*s.Size))
				}
			}
		}
		got, freed, why := sweep.All(g)
		if !slices.Equal(freed, want) || !slices.Equal(sample.Addrs(got.Marker.Heap), sample.Addrs(g.Marker.Heap)) || got.Phase != api.PhaseIdle || why != api.OK {
			t.Errorf("heap %d: %d, error %d; want %d", i, freed, why, want)
		}
	}
}

// 16.7

// TestRoom: if Alloc answers ErrFull, there is no room when all is swept: neither a slot of the size, nor enough consecutive free pages. If it answers an object, that fits.
func TestRoom(t *testing.T) {
	p := sample.Picks(84)
	full, fine := 0, 0
	for i, g := range gcs(150) {
		for range 20 {
			n := p.Below(49)
			got, addr, why := sweep.Alloc(g, api.Shape{N: n})
			clean, _, no := sweep.All(g)
			if no != api.OK {
				clean = g
			}
			if roomy(t, clean, n) != (why == api.OK) || why != api.OK && why != api.ErrFull {
				t.Fatalf("heap %d, %d fields: %d, error %d", i, n, addr, why)
			}
			if why == api.OK {
				fine++
			} else {
				full++
			}
			g = got
		}
	}
	if full < 500 || fine < 500 {
		t.Error(full, fine)
	}
}

// roomy reports whether there is room for an object of so many fields in a heap of few spans.
func roomy(t *testing.T, g api.Gc, n int) bool {
	t.Helper()
	c, why := class.Of(n + 1)
	many, no := class.Pages(n + 1)
	longest, nor := pages.Longest(g.Marker.Heap.Pages)
	if why != api.OK || no != api.OK || nor != api.OK || rest(g) > 0 {
		t.Fatal(why, no, nor, rest(g))
	}
	size, _ := class.Size(c)
	return longest >= many || c >= 0 && slices.ContainsFunc(g.Marker.Heap.Spans, func(s api.Span) bool {
		return s.Size == size && s.Alloc.W[0] != 1<<s.Alloc.N-1
	})
}

// TestRoomOfSpans: where there are as many spans as there may be, there is no room for another one, though there are free pages; but once one is gone, there is.
func TestRoomOfSpans(t *testing.T) {
	g := sample.Gc(api.PhaseSweep, sample.Off(sample.FullSpans(), 1))
	if got, addr, why := sweep.Alloc(g, api.Shape{N: 2}); !same(got, g) || addr != 0 || why != api.ErrFull {
		t.Error(addr, why)
	}
	if _, addr, why := sweep.Alloc(g, api.Shape{N: 1}); addr != 256*16 || why != api.OK {
		t.Error(addr, why)
	}
	for _, at := range []int{0, 77, 255} {
		less := sample.CopyGc(g)
		s := &less.Marker.Heap.Spans[at]
		clear(s.Mark.W)
		s.Swept = false
		// Nobody refers to it any more.
		for _, o := range sample.Objects(g.Marker.Heap) {
			less.Marker.Heap.Arena.Words[o.Addr+1] = 0
		}
		if got, addr, why := sweep.Alloc(less, api.Shape{N: 2}); addr != uint64(16*(at+1)) || why != api.OK || got.Phase != api.PhaseIdle {
			t.Error(at, addr, why, got.Phase)
		}
	}
}
