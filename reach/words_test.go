package reach_test

import (
	"cmp"
	"slices"

	"besom/api"
	"besom/barrier"
	"besom/ephem"
	"besom/sample"
	"besom/special"
	"besom/weak"
)

// What the chapter's words say of collected heaps, written down once more, and without regard for speed.

var same = sample.SameGcs

// within reports whether all of the addresses, but for 0, are in a list.
func within(addrs, list []uint64) bool {
	return !slices.ContainsFunc(addrs, func(addr uint64) bool { return addr != 0 && !slices.Contains(list, addr) })
}

// entries are the slots with a key, in ascending order of the keys.
func entries(t api.Ephem) []api.EphSlot {
	var out []api.EphSlot
	for _, s := range t.Slots {
		if s.State == api.EphUsed {
			out = append(out, s)
		}
	}
	slices.SortFunc(out, func(a, b api.EphSlot) int { return cmp.Compare(a.Key, b.Key) })
	return out
}

// finalsOf are the addresses with a finalizer among the specials.
func finalsOf(l []api.Special) []uint64 {
	var out []uint64
	for _, s := range l {
		if s.Kind == api.SpecialFinal {
			out = append(out, s.Addr)
		}
	}
	return out
}

// itemAddrs are the addresses of the items that have one.
func itemAddrs(l []api.Item) []uint64 {
	var out []uint64
	for _, item := range l {
		if item.Addr != 0 {
			out = append(out, item.Addr)
		}
	}
	return out
}

// valid reports whether a collected heap is valid.
func valid(g api.Gc) bool {
	if barrier.Check(g.Marker) != api.OK || ephem.Check(g.Table) != api.OK || special.Check(g.Specials) != api.OK || weak.Check(g.Weak) != api.OK {
		return false
	}
	switch g.Phase {
	case api.PhaseIdle:
		if g.Marker.On || !sample.AllAreSwept(g.Marker.Heap) {
			return false
		}
	case api.PhaseMark, api.PhaseLate:
		if !g.Marker.On {
			return false
		}
	case api.PhaseSweep:
		if g.Marker.On {
			return false
		}
	default:
		return false
	}
	return itemsRight(g.Queue) && addrsRight(g)
}

func itemsRight(l []api.Item) bool {
	for _, item := range l {
		final := item.Kind == api.SpecialFinal && item.Addr != 0
		clean := item.Kind == api.SpecialClean && item.Addr == 0
		if !final && !clean {
			return false
		}
	}
	return len(l) <= 256
}

// addrsRight reports whether all that is beside the heap is of current objects and, where it has to be, of marked ones.
func addrsRight(g api.Gc) bool {
	current, marked := sample.Addrs(g.Marker.Heap), sample.Marked(g.Marker.Heap)
	for _, e := range entries(g.Table) {
		if !within([]uint64{e.Key, e.Val}, current) {
			return false
		}
	}
	for _, s := range g.Specials {
		if !within([]uint64{s.Addr}, current) {
			return false
		}
	}
	if !within(g.Weak, current) || !within(itemAddrs(g.Queue), current) {
		return false
	}
	if g.Marker.On && !within(itemAddrs(g.Queue), marked) {
		return false
	}
	return g.Phase != api.PhaseLate || within(finalsOf(g.Specials), marked) && within(g.Weak, marked)
}

// shadow shades objects with worker 0, and tells how many were white.
func shadow(m api.Marker, addrs ...uint64) (api.Marker, int) {
	m = sample.CopyMarker(m)
	marked, n := sample.Marked(m.Heap), 0
	for _, addr := range addrs {
		if addr == 0 || slices.Contains(marked, addr) {
			continue
		}
		marked = append(marked, addr)
		m.Grey.Queues[0] = append(m.Grey.Queues[0], addr)
		n++
	}
	m.Heap = sample.Marks(m.Heap, marked...)
	return m, n
}

// started is what Start answers.
func started(g api.Gc) (api.Gc, api.Errno) {
	if g.Phase != api.PhaseIdle {
		return g, api.ErrState
	}
	out := sample.CopyGc(g)
	out.Phase = api.PhaseMark
	out.Marker.On = true
	out.Marker.Heap = sample.Marks(g.Marker.Heap)
	out.Marker, _ = shadow(out.Marker, itemAddrs(g.Queue)...)
	return out, api.OK
}

// left reports whether something is left to be marked.
func left(m api.Marker) bool {
	return len(slices.Concat(m.Grey.Queues...)) > 0 || slices.ContainsFunc(m.Hands, func(h api.Hand) bool { return h.Obj != 0 })
}

// finished is what Finish answers.
func finished(g api.Gc) (api.Gc, int, api.Errno) {
	if g.Phase != api.PhaseMark && g.Phase != api.PhaseLate || left(g.Marker) {
		return g, 0, api.ErrState
	}
	marked := sample.Marked(g.Marker.Heap)
	var vals []uint64
	for _, e := range entries(g.Table) {
		if slices.Contains(marked, e.Key) {
			vals = append(vals, e.Val)
		}
	}
	out := sample.CopyGc(g)
	if !within(vals, marked) {
		n := 0
		out.Marker, n = shadow(g.Marker, vals...)
		return out, n, api.OK
	}
	if g.Phase == api.PhaseMark {
		return lated(out, marked)
	}
	return stopped(out, marked)
}

// lated is what the second action makes of g, which it may change.
func lated(g api.Gc, marked []uint64) (api.Gc, int, api.Errno) {
	before := sample.CopyGc(g)
	items := enqueued(&g, api.SpecialFinal, marked)
	if len(g.Queue) > 256 {
		return before, 0, api.ErrFull
	}
	g.Phase = api.PhaseLate
	for i, addr := range g.Weak {
		if !slices.Contains(marked, addr) {
			g.Weak[i] = 0
		}
	}
	g.Marker, _ = shadow(g.Marker, itemAddrs(items)...)
	return g, len(items), api.OK
}

// stopped is what the third action makes of g, which it may change.
func stopped(g api.Gc, marked []uint64) (api.Gc, int, api.Errno) {
	before := sample.CopyGc(g)
	items := enqueued(&g, api.SpecialClean, marked)
	if len(g.Queue) > 256 {
		return before, 0, api.ErrFull
	}
	g.Phase = api.PhaseSweep
	for _, e := range entries(g.Table) {
		if !slices.Contains(marked, e.Key) {
			g.Table = sample.Without(g.Table, e.Key)
		}
	}
	g.Marker.On = false
	for i := range g.Marker.Heap.Spans {
		g.Marker.Heap.Spans[i].Swept = false
	}
	return g, len(items), api.OK
}

// enqueued moves the specials of a kind whose objects are not marked into the queue, and tells which items these are.
func enqueued(g *api.Gc, kind api.SpecialKind, marked []uint64) []api.Item {
	var items []api.Item
	var others []api.Special
	for _, s := range g.Specials {
		switch {
		case s.Kind != kind || slices.Contains(marked, s.Addr):
			others = append(others, s)
		case kind == api.SpecialFinal:
			items = append(items, sample.FinalItem(s.Addr, s.Tag))
		default:
			items = append(items, sample.CleanItem(s.Tag))
		}
	}
	g.Specials, g.Queue = others, append(g.Queue, items...)
	return items
}

// settled is g when nothing is left to be marked, as mark.Run leaves it.
func settled(g api.Gc) api.Gc {
	g = sample.CopyGc(g)
	if g.Marker.On {
		g.Marker = sample.Settled(g.Marker)
	}
	return g
}

// small are the collected heaps of the sample that a test may try again and again.
func small() []api.Gc {
	return slices.DeleteFunc(sample.Gcs(), func(g api.Gc) bool { return len(g.Marker.Heap.Spans) > 100 })
}

// gcs are valid collected heaps in all phases, with small heaps.
func gcs(n int) []api.Gc {
	out := append(small(), busy())
	p := sample.Picks(51)
	for i := range n {
		out = append(out, sample.SomeGc(&p, i%10, 1+i%4))
	}
	return out
}

// busy is in PhaseLate, with something of all kinds; there are objects that are black, and some that are white.
func busy() api.Gc {
	g := sample.SixMarked(api.PhaseLate, 16, 18, 22, 24)
	g.Table = sample.Without(sample.Pairs(16, 16, 18, 20, 26, 24, 0, 26, 20), 16)
	g.Specials = []api.Special{sample.Cleanup(16, 1), sample.Final(16, 2), sample.Cleanup(20, 3), sample.Cleanup(20, 4), sample.Final(22, 5), sample.Cleanup(26, 6)}
	g.Weak = []uint64{16, 0, 24}
	g.Queue = []api.Item{sample.FinalItem(22, 7), sample.CleanItem(8)}
	return g
}
