package sweep

import (
	"besom/api"
	"besom/barrier"
	"besom/heap"
	"besom/plain"
	"besom/reach"
)

// working is a valid collected heap that is being swept.
type working struct {
	api.Gc
}

// view returns a valid collected heap. It shares the memory of g.
func view(g api.Gc) (working, api.Errno) {
	if why := reach.Check(g); why != api.OK {
		return working{}, why
	}
	return working{g}, api.OK
}

// twin returns a copy with memory of its own.
func (w working) twin() working {
	return working{plain.Gc(w.Gc)}
}

// rest returns the first pages of the spans that are not Swept, in ascending order.
func (w working) rest() []int {
	var firsts []int
	for _, s := range w.Marker.Heap.Spans {
		if !s.Swept {
			firsts = append(firsts, s.First)
		}
	}
	return firsts
}

// step executes one step, and returns the addresses of the freed objects. A heap may have no span that is left from the beginning: then the step only ends the phase.
func (w *working) step() []uint64 {
	rest := w.rest()
	var freed []uint64
	if len(rest) > 0 {
		w.Marker.Heap, freed, _ = heap.Clean(w.Marker.Heap, rest[0])
	}
	if len(rest) <= 1 {
		w.Phase = api.PhaseIdle
	}
	return freed
}

// alloc allocates an object, and executes as few steps as it can for that. With an error, nothing is left to be swept, or no step would help.
func (w *working) alloc(s api.Shape) (uint64, api.Errno) {
	for {
		m, addr, why := barrier.New(w.Marker, s)
		if why == api.ErrFull && w.Phase == api.PhaseSweep {
			w.step()
			continue
		}
		w.Marker = m
		return addr, why
	}
}

// spanPages returns the number of pages that belong to spans.
func (w working) spanPages() int {
	n := 0
	for _, s := range w.Marker.Heap.Spans {
		n += s.Pages
	}
	return n
}
