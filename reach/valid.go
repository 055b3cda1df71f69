package reach

import (
	"slices"

	"besom/api"
	"besom/barrier"
	"besom/ephem"
	"besom/heap"
	"besom/plain"
	"besom/special"
	"besom/weak"
)

// parted reports whether the parts that have a layer of their own are valid.
func (w working) parted() bool {
	return barrier.Check(w.Marker) == api.OK && ephem.Check(w.Table) == api.OK &&
		special.Check(w.Specials) == api.OK && weak.Check(w.Weak) == api.OK
}

// marking reports whether the phase is one in which objects are marked.
func (w working) marking() bool {
	return w.Phase == api.PhaseMark || w.Phase == api.PhaseLate
}

// phased reports whether marker and spans are those of the phase.
func (w working) phased() bool {
	if w.Phase >= api.PhaseCount || w.Marker.On != w.marking() {
		return false
	}
	return w.Phase == api.PhaseSweep || plain.Swept(w.Marker.Heap)
}

// queued reports whether the queue has no more items than it may, each of which is a finalizer of an object, or a cleanup of none.
func (w working) queued() bool {
	return len(w.Queue) <= api.MaxQueue && !slices.ContainsFunc(w.Queue, func(item api.Item) bool {
		switch item.Kind {
		case api.SpecialFinal:
			return item.Addr == 0
		case api.SpecialClean:
			return item.Addr != 0
		}
		return true
	})
}

// owned reports whether all that is beside the heap is of current objects.
func (w working) owned() bool {
	objects, _ := heap.Objects(w.Marker.Heap)
	current := plain.SetOf(len(w.Marker.Heap.Arena.Words), objects)
	keys, vals, _ := ephem.All(w.Table)
	finals, _ := special.Addrs(w.Specials, api.SpecialFinal)
	cleans, _ := special.Addrs(w.Specials, api.SpecialClean)
	all := slices.Concat(keys, vals, finals, cleans, w.Weak, needed(w.Queue))
	// 0 is nothing where it may be, and the layers have asked where it may not.
	return current.HasAll(all...)
}

// dark reports whether nothing is white that may not be while the marker is On.
func (w working) dark() bool {
	if !w.marking() {
		return true
	}
	all := needed(w.Queue)
	if w.Phase == api.PhaseLate {
		finals, _ := special.Addrs(w.Specials, api.SpecialFinal)
		all = slices.Concat(all, finals, w.Weak)
	}
	white := w.whites()
	return !slices.ContainsFunc(all, func(addr uint64) bool {
		return addr != 0 && white(addr)
	})
}
