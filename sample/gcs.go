package sample

import (
	"math"
	"slices"

	"besom/api"
)

// Gc returns a collected heap of that phase and marker, with no ephemerons, specials, weak handles and items. It does not ask whether it is valid.
func Gc(phase api.Phase, m api.Marker) api.Gc {
	return api.Gc{Phase: phase, Marker: CopyMarker(m)}
}

// BareGcs returns a collected heap in that phase, with nothing in it and beside it, twice: with nil lists, and with empty ones.
func BareGcs(phase api.Phase) (api.Gc, api.Gc) {
	m := Off(Heap(3, nil), 1)
	m.On = phase == api.PhaseMark || phase == api.PhaseLate
	nils, empties := Gc(phase, m), Gc(phase, m)
	empties.Marker.Heap.Spans, empties.Marker.Grey.Queues[0] = []api.Span{}, []uint64{}
	empties.Table.Slots, empties.Specials, empties.Weak, empties.Queue = []api.EphSlot{}, []api.Special{}, []uint64{}, []api.Item{}
	return nils, empties
}

// CopyGc returns the collected heap with memory of its own.
func CopyGc(g api.Gc) api.Gc {
	g.Marker = CopyMarker(g.Marker)
	g.Table = CopyEphem(g.Table)
	g.Specials = slices.Clone(g.Specials)
	g.Weak = slices.Clone(g.Weak)
	g.Queue = slices.Clone(g.Queue)
	return g
}

// SameGcs reports whether two collected heaps are alike; a nil list is an empty one.
func SameGcs(a, b api.Gc) bool {
	return a.Phase == b.Phase && SameMarkers(a.Marker, b.Marker) && SameEphems(a.Table, b.Table) &&
		slices.Equal(a.Specials, b.Specials) && slices.Equal(a.Weak, b.Weak) && slices.Equal(a.Queue, b.Queue)
}

// FinalItem returns a finalizer that waits.
func FinalItem(addr, tag uint64) api.Item {
	return api.Item{Kind: api.SpecialFinal, Addr: addr, Tag: tag}
}

// CleanItem returns a cleanup that waits.
func CleanItem(tag uint64) api.Item {
	return api.Item{Kind: api.SpecialClean, Tag: tag}
}

// Addrs returns the addresses of the current objects of a valid heap, in ascending order.
func Addrs(h api.Heap) []uint64 {
	var out []uint64
	for _, o := range Objects(h) {
		out = append(out, o.Addr)
	}
	return out
}

// Settled returns the marker, which is On, when nothing is left to be marked: all is marked that marked objects lead to.
func Settled(m api.Marker) api.Marker {
	objects, marked := Objects(m.Heap), Marked(m.Heap)
	for before := -1; before < len(marked); {
		before = len(marked)
		for _, o := range objects {
			if !slices.Contains(marked, o.Addr) {
				continue
			}
			for _, ref := range o.Refs() {
				if !slices.Contains(marked, ref) {
					marked = append(marked, ref)
				}
			}
		}
	}
	return On(Marks(m.Heap, marked...), make([]api.Hand, len(m.Hands)))
}

// SixLists is the collected heap of the examples of chapter 15: l0 to l5 are at 16, 18, 20, 22, 24 and 26.
func SixLists() api.Gc {
	refs := [][]uint64{nil, nil, nil, {24}, nil, nil}
	var objects []Object
	for i, fields := range refs {
		objects = append(objects, Object{Addr: uint64(16 + 2*i), N: 1, Mask: 1, Fields: fields})
	}
	g := Gc(api.PhaseIdle, Off(Heap(4, []api.Span{Span(1, 1, 2, 63, 0)}, objects...), 2))
	g.Table = Pairs(8, 16, 18, 18, 20, 24, 26)
	g.Specials = []api.Special{Cleanup(20, 3), Final(22, 1), Cleanup(26, 2)}
	g.Weak = []uint64{20, 22, 24}
	return g
}

// SixMarked returns SixLists in that phase, PhaseMark or PhaseLate, with these objects marked and nothing left to be marked.
func SixMarked(phase api.Phase, marked ...uint64) api.Gc {
	g := SixLists()
	g.Phase = phase
	g.Marker = On(Marks(g.Marker.Heap, marked...), make([]api.Hand, 2))
	return g
}

// ThreeLarge is the collected heap of the examples of chapter 16, in PhaseSweep: nothing is marked.
func ThreeLarge() api.Gc {
	l := []api.Span{Unswept(Span(1, 1, 16, 1, 0)), Unswept(Span(2, 1, 16, 1, 0)), Unswept(Span(3, 2, 0, 1, 0))}
	h := Heap(5, l, Object{Addr: 16, N: 15}, Object{Addr: 32, N: 15}, Object{Addr: 48, N: 20})
	return Gc(api.PhaseSweep, Off(h, 1))
}

// Gcs returns valid collected heaps, small ones first.
func Gcs() []api.Gc {
	lists := SixLists()
	sixty := CopyGc(lists)
	sixty.Specials = slices.Repeat([]api.Special{Cleanup(16, math.MaxUint64)}, 64)
	sixty.Queue = slices.Repeat([]api.Item{FinalItem(18, 0), CleanItem(1), FinalItem(18, 0), CleanItem(math.MaxUint64)}, 64)
	sixty.Weak = append(make([]uint64, 62), 16, 26)
	sixty.Table = Without(Pairs(64, 16, 0, 18, 18, 20, 16, 22, 0), 20)
	late := SixMarked(api.PhaseLate, 20, 22, 24)
	late.Queue = []api.Item{CleanItem(0), FinalItem(24, 5), FinalItem(24, 5)}
	mark := SixMarked(api.PhaseMark, 16)
	mark.Queue = []api.Item{FinalItem(16, 1)}
	swept := CopyGc(lists)
	swept.Phase = api.PhaseSweep
	out := []api.Gc{lists, sixty, late, mark, swept, SixMarked(api.PhaseMark), ThreeLarge()}
	for _, m := range Markers() {
		out = append(out, phases(m)...)
	}
	return out
}

// phases returns collected heaps with a valid marker, in all phases that go with it.
func phases(m api.Marker) []api.Gc {
	if m.On {
		return []api.Gc{Gc(api.PhaseMark, m), Gc(api.PhaseLate, m)}
	}
	if !AllAreSwept(m.Heap) {
		return []api.Gc{Gc(api.PhaseSweep, m)}
	}
	return []api.Gc{Gc(api.PhaseIdle, m), Gc(api.PhaseSweep, m)}
}

// AllAreSwept reports whether all spans are Swept.
func AllAreSwept(h api.Heap) bool {
	return !slices.ContainsFunc(h.Spans, func(s api.Span) bool {
		return !s.Swept
	})
}

// SomeGc returns a valid collected heap in any phase, of so many workers, and a heap of about so many spans.
func SomeGc(p *Picks, spans, workers int) api.Gc {
	l := phases(SomeMarker(p, spans, workers))
	g := l[p.Below(len(l))]
	if g.Marker.On && p.Below(4) > 0 {
		g.Marker = Settled(g.Marker)
	}
	all, marked := Addrs(g.Marker.Heap), Marked(g.Marker.Heap)
	if !g.Marker.On {
		marked = all
	}
	handled := all
	if g.Phase == api.PhaseLate {
		handled = marked
	}
	g.Table = someTable(p, all)
	g.Weak = someHandles(p, handled)
	g.Specials = someOwned(p, all, handled)
	g.Queue = someItems(p, marked)
	return g
}

// someTable returns a table of some of the objects.
func someTable(p *Picks, all []uint64) api.Ephem {
	var pairs []uint64
	rare := 1 + p.Below(9)
	for _, key := range all {
		if p.Below(rare) > 0 || len(pairs) >= 2*24 {
			continue
		}
		val := all[p.Below(len(all))]
		if p.Below(4) == 0 {
			val = 0
		}
		pairs = append(pairs, key, val)
	}
	if p.Below(3) == 0 {
		return api.Ephem{}
	}
	t := Pairs(64, pairs...)
	if len(pairs) > 0 && p.Below(3) == 0 {
		return Without(t, pairs[0])
	}
	return t
}

// someHandles returns a table of weak handles of some of the objects, in any order.
func someHandles(p *Picks, objects []uint64) []uint64 {
	var out []uint64
	for _, addr := range objects {
		if p.Below(2) == 0 && len(out) < 60 {
			out = slices.Insert(out, p.Below(len(out)+1), addr)
		}
		if p.Below(9) == 0 && len(out) < 60 {
			out = append(out, 0)
		}
	}
	return out
}

// someOwned returns specials of some of the objects: cleanups of any of them, and finalizers of those that may have one.
func someOwned(p *Picks, all, finals []uint64) []api.Special {
	var out []api.Special
	for _, addr := range all {
		var own []api.Special
		for range p.Below(4) {
			own = append(own, Cleanup(addr, p.Word()))
		}
		if len(own) > 0 && p.Below(2) == 0 && slices.Contains(finals, addr) {
			own[p.Below(len(own))].Kind = api.SpecialFinal
		}
		out = append(out, own...)
	}
	return out[:min(len(out), 64)]
}

// someItems returns a queue of items, whose finalizers are of some of the objects. Now and then it is full, or nearly so.
func someItems(p *Picks, objects []uint64) []api.Item {
	n := p.Below(5)
	if p.Below(4) == 0 {
		n = 256 - n*n
	}
	var out []api.Item
	for range n {
		item := CleanItem(p.Word())
		if len(objects) > 0 && p.Below(2) == 0 {
			item = FinalItem(objects[p.Below(len(objects))], p.Word())
		}
		out = append(out, item)
	}
	return out
}
