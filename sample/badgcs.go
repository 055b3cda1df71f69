package sample

import (
	"cmp"
	"math"
	"slices"

	"besom/api"
)

// BadGcs returns collected heaps that are not valid, each for a reason of its own.
func BadGcs() []api.Gc {
	return slices.Concat(badMarked(), badPhases(), badTables(), badLists(), badItems(), deadAddrs(), whiteAddrs())
}

// changedGc returns a copy of g in which one thing was changed.
func changedGc(g api.Gc, change func(g *api.Gc)) api.Gc {
	g = CopyGc(g)
	change(&g)
	return g
}

// badMarked are collected heaps whose marker is not valid.
func badMarked() []api.Gc {
	bad := []api.Gc{{}, {Phase: api.PhaseSweep}, {Phase: api.PhaseMark}}
	for _, m := range BadMarkers() {
		if m.On {
			bad = append(bad, Gc(api.PhaseMark, m), Gc(api.PhaseLate, m))
		} else {
			bad = append(bad, Gc(api.PhaseIdle, m), Gc(api.PhaseSweep, m))
		}
	}
	return bad
}

// badPhases are collected heaps whose phase is none, or does not go with marker and spans.
func badPhases() []api.Gc {
	on, off := SixMarked(api.PhaseMark, 16, 18, 20, 22, 24).Marker, SixLists().Marker
	bad := []api.Gc{Gc(api.PhaseIdle, on), Gc(api.PhaseSweep, on), Gc(api.PhaseMark, off), Gc(api.PhaseLate, off)}
	for _, phase := range []api.Phase{api.PhaseCount, 5, 64, 127, 128, 129, 130, 131, 255} {
		bad = append(bad, Gc(phase, on), Gc(phase, off), Gc(phase, ThreeLarge().Marker))
	}
	late := ThreeLarge()
	late.Phase = api.PhaseIdle
	last := CopyGc(late)
	last.Marker.Heap.Spans[0].Swept, last.Marker.Heap.Spans[1].Swept = true, true
	return append(bad, late, last)
}

// badTables are collected heaps whose table of ephemerons is not valid, though all in it is of current objects.
func badTables() []api.Gc {
	g := SixLists()
	spoilt := func(change func(slots []api.EphSlot)) api.Gc {
		return changedGc(g, func(g *api.Gc) { change(g.Table.Slots) })
	}
	at := slices.IndexFunc(g.Table.Slots, func(s api.EphSlot) bool { return s.State == api.EphUsed })
	free := slices.IndexFunc(g.Table.Slots, func(s api.EphSlot) bool { return s.State == api.EphFree })
	bad := []api.Gc{
		spoilt(func(l []api.EphSlot) { l[at].State = api.EphCount }),
		spoilt(func(l []api.EphSlot) { l[at].State = api.EphGone }),
		spoilt(func(l []api.EphSlot) { l[at].State = api.EphFree }),
		spoilt(func(l []api.EphSlot) { l[at].Key = 0 }),
		spoilt(func(l []api.EphSlot) { l[free].Val = 16 }),
		spoilt(func(l []api.EphSlot) { l[free].State = 255 }),
		changedGc(g, func(g *api.Gc) { g.Table.Slots = g.Table.Slots[:7] }),
		changedGc(g, func(g *api.Gc) { g.Table.Slots = append(g.Table.Slots, api.EphSlot{}) }),
		changedGc(g, func(g *api.Gc) { g.Table.Slots = make([]api.EphSlot, 128) }),
	}
	for _, t := range BadEphems() {
		bad = append(bad, changedGc(g, func(g *api.Gc) { g.Table = t }))
	}
	return bad
}

// badLists are collected heaps whose specials or weak handles are not valid.
func badLists() []api.Gc {
	var bad []api.Gc
	for _, g := range []api.Gc{SixLists(), SixMarked(api.PhaseLate, 16, 18, 20, 22, 24, 26)} {
		for _, l := range BadSpecials() {
			bad = append(bad, changedGc(g, func(g *api.Gc) { g.Specials = l }))
		}
		for _, l := range append(BadWeakTables(), []uint64{20, 22, 20}, []uint64{16, 0, 0, 16}) {
			bad = append(bad, changedGc(g, func(g *api.Gc) { g.Weak = l }))
		}
	}
	return bad
}

// badItems are collected heaps whose queue is too long, or has an item that is none.
func badItems() []api.Gc {
	items := []api.Item{{}, {Addr: 16}, FinalItem(0, 1), {Kind: api.SpecialClean, Addr: 16}, {Kind: api.SpecialClean, Addr: math.MaxUint64}}
	for _, kind := range []api.SpecialKind{api.SpecialCount, 4, 127, 128, 129, 130, 255} {
		items = append(items, api.Item{Kind: kind}, api.Item{Kind: kind, Addr: 16})
	}
	var bad []api.Gc
	for _, g := range []api.Gc{SixLists(), SixMarked(api.PhaseMark, 16), SixMarked(api.PhaseLate, 16, 20, 22, 24)} {
		for _, item := range items {
			bad = append(bad, changedGc(g, func(g *api.Gc) { g.Queue = []api.Item{item} }),
				changedGc(g, func(g *api.Gc) { g.Queue = []api.Item{CleanItem(1), FinalItem(16, 1), item} }),
				changedGc(g, func(g *api.Gc) { g.Queue = []api.Item{item, CleanItem(1)} }))
		}
		for _, n := range []int{257, 512, 5000} {
			bad = append(bad, changedGc(g, func(g *api.Gc) { g.Queue = slices.Repeat([]api.Item{CleanItem(1)}, n) }),
				changedGc(g, func(g *api.Gc) { g.Queue = slices.Repeat([]api.Item{FinalItem(16, 1)}, n) }))
		}
	}
	return bad
}

// besides are the places of a collected heap where the address of an object is, each as what is changed to put one there.
func besides(addr uint64) []func(g *api.Gc) {
	return []func(g *api.Gc){
		func(g *api.Gc) { g.Table = Pairs(8, addr, 0) },
		func(g *api.Gc) { g.Table = Pairs(16, 16, 16, addr, addr) },
		func(g *api.Gc) { g.Table = Pairs(8, 16, addr) },
		func(g *api.Gc) { g.Table = Without(Pairs(8, 18, 0, 16, addr), 18) },
		func(g *api.Gc) { g.Specials = []api.Special{Cleanup(addr, 1)} },
		func(g *api.Gc) { g.Specials = []api.Special{Final(addr, 1)} },
		func(g *api.Gc) { g.Specials = sorted(Cleanup(16, 1), Final(addr, 1), Cleanup(addr, 1)) },
		func(g *api.Gc) { g.Weak = []uint64{addr} },
		func(g *api.Gc) { g.Weak = []uint64{0, 16, addr, 0} },
		func(g *api.Gc) { g.Queue = []api.Item{FinalItem(addr, 1)} },
		func(g *api.Gc) { g.Queue = []api.Item{CleanItem(1), FinalItem(16, 2), FinalItem(addr, 1)} },
	}
}

func sorted(l ...api.Special) []api.Special {
	slices.SortStableFunc(l, func(a, b api.Special) int {
		return cmp.Compare(a.Addr, b.Addr)
	})
	return l
}

// deadAddrs are collected heaps in which something is of an object that is none, or not current.
func deadAddrs() []api.Gc {
	marked := SixMarked(api.PhaseLate, 16, 18, 20, 22, 24, 26)
	idle, late := SixLists(), marked
	mark, swept := CopyGc(marked), SixLists()
	mark.Phase, swept.Phase = api.PhaseMark, api.PhaseSweep
	swept.Marker.Heap = Marks(swept.Marker.Heap, 16, 18, 22, 24)
	swept.Marker.Heap.Spans[0].Swept = false
	// What these still have is of objects that are not current.
	bad := []api.Gc{CopyGc(swept), CopyGc(swept)}
	bad[0].Table, bad[1].Specials = api.Ephem{}, nil
	swept.Table, swept.Specials, swept.Weak = api.Ephem{}, nil, nil
	for _, addr := range []uint64{1, 15, 17, 28, 30, 32, 63, 64, 16384, 1 << 32, 1<<32 + 16, 1<<60 + 16, 1 << 63, math.MaxUint64 - 15, math.MaxUint64} {
		for _, change := range besides(addr) {
			bad = append(bad, changedGc(idle, change), changedGc(mark, change), changedGc(late, change), changedGc(swept, change))
		}
	}
	for _, addr := range []uint64{20, 26} {
		for _, change := range besides(addr) {
			bad = append(bad, changedGc(swept, change))
		}
	}
	return bad
}

// whiteAddrs are collected heaps whose marker is On, and in which something is of a white object that may not be.
func whiteAddrs() []api.Gc {
	mark, late := SixMarked(api.PhaseMark, 16, 18), SixMarked(api.PhaseLate, 16, 18)
	late.Specials, late.Weak = nil, nil
	grey := CopyGc(late)
	grey.Marker = On(Marks(grey.Marker.Heap, 16, 18), []api.Hand{{Obj: 16}, {}}, []uint64{18})
	var bad []api.Gc
	for _, addr := range []uint64{20, 22, 24, 26} {
		for i, change := range besides(addr) {
			// Keys, values and cleanups are of white objects, too; in PhaseMark, so are finalizers and weak handles.
			if i >= 9 {
				bad = append(bad, changedGc(mark, change))
			}
			if i >= 5 {
				bad = append(bad, changedGc(late, change), changedGc(grey, change))
			}
		}
	}
	return bad
}
