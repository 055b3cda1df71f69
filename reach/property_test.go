package reach_test

import (
	"slices"
	"testing"

	"besom/api"
	"besom/barrier"
	"besom/heap"
	"besom/mark"
	"besom/model"
	"besom/reach"
	"besom/sample"
)

// 15.4

// TestAsTheModel: a collection during which nothing is changed marks what the model keeps, makes its specials items, and takes away the weak handles of what is not live.
func TestAsTheModel(t *testing.T) {
	p := sample.Picks(61)
	var finals, cleans, kept, cleared int
	for i := range 400 {
		g := idle(&p, i%14, 1+i%4)
		roots := someOf(&p, sample.Addrs(g.Marker.Heap))
		want, why := model.Fate(g.Marker.Heap, slices.Concat(roots, itemAddrs(g.Queue)), g.Table, g.Specials)
		if why != api.OK {
			t.Fatal(i, why)
		}
		got := collected(t, &p, g, roots)
		if !slices.Equal(sample.Marked(got.Marker.Heap), want.Kept) {
			t.Fatalf("heap %d from %d: %d is marked, want %d", i, roots, sample.Marked(got.Marker.Heap), want.Kept)
		}
		if items := modelItems(want); !slices.Equal(got.Queue, append(slices.Clone(g.Queue), items...)) {
			t.Fatalf("heap %d from %d: items %v, want %v behind %v", i, roots, got.Queue, items, g.Queue)
		}
		for k, addr := range g.Weak {
			if !slices.Contains(want.Live, addr) {
				addr = 0
				cleared++
			}
			if got.Weak[k] != addr {
				t.Fatalf("heap %d from %d: handles %d, before %d; live %d", i, roots, got.Weak, g.Weak, want.Live)
			}
		}
		finals, cleans, kept = finals+len(want.Finals), cleans+len(want.Cleans), kept+len(want.Kept)-len(want.Live)
	}
	if finals < 200 || cleans < 200 || kept < 200 || cleared < 200 {
		t.Error(finals, cleans, kept, cleared)
	}
}

// TestWhatStays: a collection changes nothing else: the specials, keys and values of what is kept are there still, and so are the words of the objects.
func TestWhatStays(t *testing.T) {
	p := sample.Picks(62)
	for i := range 200 {
		g := idle(&p, i%14, 1+i%4)
		got := collected(t, &p, g, someOf(&p, sample.Addrs(g.Marker.Heap)))
		marked := sample.Marked(got.Marker.Heap)
		var specials []api.Special
		for _, s := range g.Specials {
			// A finalizer that waits keeps its object.
			if slices.Contains(marked, s.Addr) && !slices.Contains(got.Queue, sample.FinalItem(s.Addr, s.Tag)) {
				specials = append(specials, s)
			}
		}
		var keys []api.EphSlot
		for _, e := range entries(g.Table) {
			if slices.Contains(marked, e.Key) {
				keys = append(keys, e)
			}
		}
		if !slices.Equal(got.Specials, specials) || !slices.Equal(entries(got.Table), keys) {
			t.Fatalf("heap %d: %v, %v; want %v, %v", i, got.Specials, got.Table, specials, keys)
		}
		if !slices.Equal(got.Marker.Heap.Arena.Words, g.Marker.Heap.Arena.Words) {
			t.Fatalf("heap %d: other words", i)
		}
	}
}

// idle is in PhaseIdle, and so that all specials fit into the queue.
func idle(p *sample.Picks, spans, workers int) api.Gc {
	for {
		g := sample.SomeGc(p, spans, workers)
		if g.Phase == api.PhaseIdle || g.Phase == api.PhaseSweep && sample.AllAreSwept(g.Marker.Heap) {
			g.Phase = api.PhaseIdle
			g.Queue = g.Queue[:min(len(g.Queue), 192)]
			return g
		}
	}
}

// someOf are some of the objects, often few of them.
func someOf(p *sample.Picks, objects []uint64) []uint64 {
	roots := []uint64{0}
	for range p.Below(5) {
		if len(objects) > 0 {
			roots = append(roots, objects[p.Below(len(objects))])
		}
	}
	return roots
}

// modelItems are what becomes of the specials of the model.
func modelItems(f api.Fate) []api.Item {
	var out []api.Item
	for _, s := range f.Finals {
		out = append(out, sample.FinalItem(s.Addr, s.Tag))
	}
	for _, s := range f.Cleans {
		out = append(out, sample.CleanItem(s.Tag))
	}
	return out
}

// collected starts a collection, shades the roots, and marks and finishes, by workers as they come, until PhaseSweep.
func collected(t *testing.T, p *sample.Picks, g api.Gc, roots []uint64) api.Gc {
	t.Helper()
	g, why := reach.Start(g)
	if why != api.OK {
		t.Fatal(why)
	}
	g.Marker, _, why = barrier.Shade(g.Marker, p.Below(len(g.Marker.Hands)), roots...)
	for steps := 0; why == api.OK && g.Phase != api.PhaseSweep; steps++ {
		if steps > 5000 {
			t.Fatal("there is no end", g)
		}
		if done, _ := mark.Done(g.Marker); done {
			g, _, why = reach.Finish(g)
		} else if m, no := mark.Scan(g.Marker, p.Below(len(g.Marker.Hands))); no != api.ErrNone {
			g.Marker, why = m, no
		}
	}
	if why != api.OK || !valid(g) {
		t.Fatal(why, g)
	}
	return g
}

// 15.5

// TestRight: every function answers a valid collected heap if it was given one, whatever happened before.
func TestRight(t *testing.T) {
	p := sample.Picks(63)
	calls := map[string]int{}
	for i, g := range gcs(120) {
		for range 30 {
			got, what := step(&p, g)
			if !valid(got) || reach.Check(got) != api.OK {
				t.Fatalf("heap %d: %s answers one that is not valid", i, what)
			}
			if !same(got, g) {
				calls[what]++
			}
			g = between(&p, got)
		}
	}
	if calls["Start"] < 100 || calls["Finish"] < 100 {
		t.Error(calls)
	}
}

// step calls one of the functions.
func step(p *sample.Picks, g api.Gc) (api.Gc, string) {
	if p.Below(3) == 0 {
		out, _ := reach.Start(g)
		return out, "Start"
	}
	out, _, _ := reach.Finish(g)
	return out, "Finish"
}

// between does what others do between the steps: they mark, store, allocate, and clean spans. What comes of it is valid.
func between(p *sample.Picks, g api.Gc) api.Gc {
	objects := append(sample.Addrs(g.Marker.Heap), 0)
	one := func() uint64 { return objects[p.Below(len(objects))] }
	worker := p.Below(len(g.Marker.Hands))
	switch {
	case g.Phase == api.PhaseSweep:
		return cleaned(g)
	case p.Below(3) > 0:
		g.Marker, _, _ = mark.Run(g.Marker)
	case p.Below(3) == 0:
		g.Marker, _ = mark.Scan(g.Marker, worker)
	case p.Below(3) == 0:
		g.Marker, _, _ = barrier.New(g.Marker, api.Shape{N: p.Below(4), Mask: 0})
	case p.Below(2) == 0:
		g.Marker, _ = barrier.Write(g.Marker, worker, one(), p.Below(3), one(), true)
	default:
		g.Marker, _, _ = barrier.Shade(g.Marker, worker, one(), one())
	}
	return g
}

// cleaned is g when all its spans were cleaned.
func cleaned(g api.Gc) api.Gc {
	for _, s := range g.Marker.Heap.Spans {
		if !s.Swept {
			g.Marker.Heap, _, _ = heap.Clean(g.Marker.Heap, s.First)
		}
	}
	g.Phase = api.PhaseIdle
	return g
}
