package plain

import (
	"slices"

	"besom/api"
	"besom/head"
)

// Swept reports whether each span of a heap is Swept.
func Swept(h api.Heap) bool {
	return !slices.ContainsFunc(h.Spans, func(s api.Span) bool {
		return !s.Swept
	})
}

// Empty reports whether all queues are empty.
func Empty(g api.Grey) bool {
	return !slices.ContainsFunc(g.Queues, func(q []uint64) bool {
		return len(q) > 0
	})
}

// Marked returns the addresses of the marked objects of a valid heap, in ascending order.
func Marked(h api.Heap) []uint64 {
	var addrs []uint64
	for _, s := range h.Spans {
		for slot := range s.Mark.N {
			if s.Mark.W[slot/64]>>(slot%64)&1 == 1 {
				addrs = append(addrs, uint64(s.First*api.PageWords+slot*s.Size))
			}
		}
	}
	return addrs
}

// Object returns the shape and the fields of an object of a valid heap. The fields share the memory of the heap: they are to be read only.
func Object(h api.Heap, addr uint64) (api.Shape, []uint64) {
	shape, _ := head.Unpack(h.Arena.Words[addr])
	return shape, h.Arena.Words[addr+1:][:shape.N]
}

// Set is a set of addresses: it has, at the index of each of them, true.
type Set []bool

// SetOf returns the set of addresses in an arena of so many words.
func SetOf(words int, addrs []uint64) Set {
	s := make(Set, words)
	for _, addr := range addrs {
		s[addr] = true
	}
	return s
}

// Has reports whether an address, which may be any number, is in the set.
func (s Set) Has(addr uint64) bool {
	return addr < uint64(len(s)) && s[addr]
}

// HasAll reports whether each of the references is 0, or to an address in the set.
func (s Set) HasAll(refs ...uint64) bool {
	return !slices.ContainsFunc(refs, func(ref uint64) bool {
		return ref != 0 && !s.Has(ref)
	})
}
