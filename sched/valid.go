package sched

import (
	"slices"

	"besom/api"
	"besom/heap"
	"besom/plain"
)

// manned reports whether there are mutators, no more than there may be, with as many registers as they have to have.
func (w working) manned() bool {
	n := len(w.Mutators)
	return n >= 1 && n <= api.MaxMutators && !slices.ContainsFunc(w.Mutators, func(m api.Mutator) bool {
		return len(m.Regs) != api.NumRegs
	})
}

// timely reports whether mutators are Scanned as they have to be in the phase.
func (w working) timely() bool {
	return !slices.ContainsFunc(w.Mutators, func(m api.Mutator) bool {
		switch w.Gc.Phase {
		case api.PhaseMark:
			return false
		case api.PhaseLate:
			return !m.Scanned
		}
		return m.Scanned
	})
}

// rooted reports whether registers refer to current objects, and those of Scanned mutators to marked ones.
func (w working) rooted() bool {
	h := w.Gc.Marker.Heap
	objects, _ := heap.Objects(h)
	current := plain.SetOf(len(h.Arena.Words), objects)
	marked := plain.SetOf(len(h.Arena.Words), plain.Marked(h))
	for _, m := range w.Mutators {
		for _, addr := range refs(m) {
			if !current.Has(addr) || m.Scanned && !marked.Has(addr) {
				return false
			}
		}
	}
	return true
}
