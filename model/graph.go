package model

import (
	"cmp"
	"maps"
	"math/bits"
	"slices"

	"besom/api"
	"besom/ephem"
	"besom/heap"
)

// graph is a valid heap with a valid table of ephemerons. The lists of objects and of keys are in ascending order.
type graph struct {
	heap       api.Heap
	objects    []uint64
	keys, vals []uint64
}

// view returns heap and table as a graph. It does not ask whether the table is of objects of this heap.
func view(h api.Heap, t api.Ephem) (graph, api.Errno) {
	objects, why := heap.Objects(h)
	if why != api.OK {
		return graph{}, why
	}
	keys, vals, why := ephem.All(t)
	if why != api.OK {
		return graph{}, why
	}
	return graph{heap: h, objects: objects, keys: keys, vals: vals}, api.OK
}

// whole reports whether roots and table are of objects of this heap.
func (g graph) whole(roots []uint64) bool {
	return g.exist(roots) && g.exist(g.keys) && g.exist(g.vals)
}

// exist reports whether each of the addresses is 0, or that of a current object. A valid table has no key 0, and no special has the address 0.
func (g graph) exist(addrs []uint64) bool {
	return !slices.ContainsFunc(addrs, func(addr uint64) bool {
		return addr != 0 && find(g.objects, addr) < 0
	})
}

// search returns a function that returns, in ascending order, what is reachable from the roots of all its calls together. Roots have to exist.
func (g graph) search() func(roots []uint64) []uint64 {
	reached := map[uint64]struct{}{}
	var waiting []uint64
	record := func(addr uint64) {
		if _, before := reached[addr]; addr == 0 || before {
			return
		}
		reached[addr] = struct{}{}
		waiting = append(waiting, addr)
	}
	return func(roots []uint64) []uint64 {
		for _, addr := range roots {
			record(addr)
		}
		// A list, and not a call of itself, because objects may be linked to any depth.
		for len(waiting) > 0 {
			last := len(waiting) - 1
			addr := waiting[last]
			waiting = waiting[:last]
			g.follow(addr, record)
		}
		return slices.Sorted(maps.Keys(reached))
	}
}

// follow passes on all that a reachable object makes reachable: what its fields refer to and, if it is a key, its value.
func (g graph) follow(addr uint64, record func(addr uint64)) {
	// The object is current, so that neither At nor Load has anything to refuse.
	shape, _ := heap.At(g.heap, addr)
	for mask := shape.Mask; mask != 0; mask &= mask - 1 {
		ref, _, _ := heap.Load(g.heap, addr, bits.TrailingZeros64(mask))
		record(ref)
	}
	if at := find(g.keys, addr); at >= 0 {
		record(g.vals[at])
	}
}

// find returns the index of x in an ascending list, or -1.
func find[T cmp.Ordered](l []T, x T) int {
	at, found := slices.BinarySearch(l, x)
	if !found {
		return -1
	}
	return at
}
